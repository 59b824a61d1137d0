/- Small texts, one behind the other: TsC, TsD, TsE, TsG, TsF, TsI, TsK, TsJ, TsH, TsL, TsM. -/
import Derived.Test.YtjmndjmhjleabaaGreatDoorPk44
import Derived.Test.YtjmndjmhjleabaaGreatDoorPk39
import Derived.Test.YtjmndjmhjleabaaGreatDoorPk47
import Derived.Test.YtjmndjmhjleabaaGreatDoorPk40
import Derived.Test.YtjmndjmhjleabaaGreatDoorPk37
import Derived.Test.YtjmndjmhjleabaaGreatDoorPk48
import Derived.Deep.RegionHeld3
import Derived.Deep.DeepCutAuto
import Derived.Test.YtjmndjmhjleabaaGreatDoorPk14
import Derived.Defers
import Derived.Recover
set_option maxHeartbeats 8000000
set_option maxRecDepth 100000
open Go.Proofs.Tryz
namespace Go.Proofs.YtjmndjmhjleabaaGreatDoor
open Go.RowKit
theorem Tu.En (vs:List ByteArray):(Tu.one vs).2=0∨(Tu.one vs).2=9∨(Tu.one vs).2=10:=by
 unfold Tu.one;split
 . exact Or.inr (Or.inr rfl)
 . exact Or.inl rfl
 . exact Or.inr (Or.inl rfl)
theorem Tu.eu {a b:ByteArray}(h:Ch.lower a.data.toList=Ch.lower b.data.toList)(l:List (ByteArray×ByteArray)):Tu.vals a l=Tu.vals b l:=by unfold Tu.vals;rw[h]
theorem Tu.mD (l:List (ByteArray×ByteArray)):Tu.vals Tu.tN l=Tu.vals Tu.Rf l:=Tu.eu (by decide +kernel) l
theorem Tu.oF (l:List (ByteArray×ByteArray)):Tu.vals Tu.xk l=Tu.vals Tu.xg l:=Tu.eu (by decide +kernel) l
theorem Tu.OT (l:List (ByteArray×ByteArray)):Tu.vals Tu.xq l=Tu.vals Tu.NJ l:=Tu.eu (by decide +kernel) l
theorem Tu.Eo (l:List (ByteArray×ByteArray)):Tu.vals Tu.FN l=Tu.vals Tu.UA l:=Tu.eu (by decide +kernel) l
theorem Tu.OU (l:List (ByteArray×ByteArray)):Tu.vals Tu.nK l=Tu.vals Tu.YR l:=Tu.eu (by decide +kernel) l
def Tu.UN:ByteArray:=⟨#[67,111,110,116,101,110,116,45,84,121,112,101]⟩
theorem Tu.yC (l:List (ByteArray×ByteArray)):Tu.vals Tu.UN l=Tu.vals Tu.FM l:=Tu.eu (by decide +kernel) l
section
variable {g:Nat} {m t:ByteArray} {mi ln:Int} {l:List (ByteArray×ByteArray)} {fo:Option Addr} {ak nf:Nat} {bo:Option Addr} {aj nb:Nat} {w:World}
theorem jI.val (h:jI w l fo ak nf)(name:ByteArray):(Tu.one (Tu.vals name l)).1.length<=2000:=Tu.OO l name 2000 (fun p hp=>(h.small p hp).2)
theorem ny {w W:World}(hW:Below (w.alloc (.cells #[.pointer (some ⟨g,0,none⟩),.string m,.string t,.int .i64 mi,.slice fo nf ak,.int .i64 ln,.slice bo nb aj] 123)).heap.size (w.alloc (.cells #[.pointer (some ⟨g,0,none⟩),.string m,.string t,.int .i64 mi,.slice fo nf ak,.int .i64 ln,.slice bo nb aj] 123)) W):W.cell? ⟨w.heap.size,0,none⟩=some (.pointer (some ⟨g,0,none⟩))∧W.cell? ⟨w.heap.size,1,none⟩=some (.string m)∧W.cell? ⟨w.heap.size,2,none⟩=some (.string t)∧W.cell? ⟨w.heap.size,3,none⟩=some (.int .i64 mi)∧W.cell? ⟨w.heap.size,4,none⟩=some (.slice fo nf ak)∧W.cell? ⟨w.heap.size,5,none⟩=some (.int .i64 ln)∧W.cell? ⟨w.heap.size,6,none⟩=some (.slice bo nb aj):=by
 have r:W.heap[w.heap.size]? = some (.cells #[.pointer (some ⟨g,0,none⟩),.string m,.string t,.int .i64 mi,.slice fo nf ak,.int .i64 ln,.slice bo nb aj] 123 (0,0)):=(hW.block w.heap.size (by simp)).trans (heap_alloc_new w _);exact⟨cell_of_row W _ 0 _ _ _ r,cell_of_row W _ 1 _ _ _ r,cell_of_row W _ 2 _ _ _ r,cell_of_row W _ 3 _ _ _ r,cell_of_row W _ 4 _ _ _ r,cell_of_row W _ 5 _ _ _ r,cell_of_row W _ 6 _ _ _ r⟩
theorem sD (name:ByteArray)(hN:name.size<=2000)(h:jI w l fo ak nf)(hc:(Tu.one (Tu.vals name l)).2=10):
 Calls prog 127 #[.agg #[.pointer (some ⟨g,0,none⟩),.string m,.string t,.int .i64 mi,.slice fo nf ak,.int .i64 ln,.slice bo nb aj],.string name] w fun e w'=>e=.returned (.tuple #[.int .i64 0,.bool false])∧Below w.heap.size w w':=by
 have bQ:=(Below.refl _ w).alloc (Nat.le_refl _) (.cells #[.pointer (some ⟨g,0,none⟩),.string m,.string t,.int .i64 mi,.slice fo nf ak,.int .i64 ln,.slice bo nb aj] 123);generalize hv:Tu.one (Tu.vals name l)=r at *;obtain⟨v,c⟩:=r;simp only at hc;subst hc;have HT:=H9 (AX (g:=g) (m:=m) (t:=t) (mi:=mi) (ln:=ln) (bo:=bo) (aj:=aj) (nb:=nb) name hN (h.stay bQ) hv);have jr:=H9 bQ;obtain⟨x0,x1,x2,x3,x4,x5,x6⟩:=ny (g:=g) (m:=m) (t:=t) (mi:=mi) (ln:=ln) (fo:=fo) (ak:=ak) (nf:=nf) (bo:=bo) (aj:=aj) (nb:=nb) (w:=w) (Below.refl _ _);clear h bQ hv;generalize (⟨v.toArray⟩:ByteArray)=vb at *;go_enter func127,ntmps127;go_wp2_with fail
 refine HT.o.mono ?_;rintro e w1 ⟨rfl,hb1⟩;have HB1:=H9 (then_ jr.o hb1);clear hb1 HT jr;go_wp2;go_ret2;exact⟨rfl,HB1.o⟩
theorem vB (name:ByteArray)(hN:name.size<=2000)(h:jI w l fo ak nf)(hc:(Tu.one (Tu.vals name l)).2≠10){x:Int}(hx:Tu.bT (Tu.one (Tu.vals name l))=(x,true)):
 Calls prog 127 #[.agg #[.pointer (some ⟨g,0,none⟩),.string m,.string t,.int .i64 mi,.slice fo nf ak,.int .i64 ln,.slice bo nb aj],.string name] w fun e w'=>e=.returned (.tuple #[.int .i64 x,.bool true])∧Below w.heap.size w w':=by
 have bQ:=(Below.refl _ w).alloc (Nat.le_refl _) (.cells #[.pointer (some ⟨g,0,none⟩),.string m,.string t,.int .i64 mi,.slice fo nf ak,.int .i64 ln,.slice bo nb aj] 123);have hz:=h.val name;generalize hv:Tu.one (Tu.vals name l)=r at *;obtain⟨v,c⟩:=r;simp only at hc hz;unfold Tu.bT at hx;rw[if_neg hc] at hx;injection hx with hx1 hx2;rw[Bool.and_eq_true,decide_eq_true_eq] at hx2;obtain⟨hx2,hx3⟩:=hx2;simp only at hx1 hx2 hx3;subst hx3;clear hc;have HT:=H9 (qL (g:=g) (m:=m) (t:=t) (mi:=mi) (ln:=ln) (bo:=bo) (aj:=aj) (nb:=nb) name hN (h.stay bQ) hv);have Ep:Hid (∀W,Calls prog 124 #[.string ⟨v.toArray⟩] W fun e w'=>e=.returned (.tuple #[.int .i64 x,.bool true])∧w'=W):=fun W=>by
  have:=iW ⟨v.toArray⟩ W (by show v.toArray.size<=_;rw[List.size_toArray];unfold maxLen;omega);rw[show(⟨v.toArray⟩:ByteArray).data.toList=v from by simp,hx1,hx2] at this;exact this
 have jr:=H9 bQ;obtain⟨x0,x1,x2,x3,x4,x5,x6⟩:=ny (g:=g) (m:=m) (t:=t) (mi:=mi) (ln:=ln) (fo:=fo) (ak:=ak) (nf:=nf) (bo:=bo) (aj:=aj) (nb:=nb) (w:=w) (Below.refl _ _);clear h bQ hv hx1 hx2 hz;generalize (⟨v.toArray⟩:ByteArray)=vb at *;go_enter func127,ntmps127;go_wp2_with fail
 refine HT.o.mono ?_;rintro e w1 ⟨rfl,hb1⟩;have HB1:=H9 (then_ jr.o hb1);clear hb1 HT jr;go_wp2_with fail
 refine(Ep.o w1).mono ?_;rintro e w2 ⟨rfl,hw⟩;rw[hw];clear hw;go_wp2_with fail
 refine(aW 400 none 0 0 w1).mono ?_;rintro e w2 ⟨rfl,hw⟩;rw[hw];clear hw;go_wp2;go_ret2;exact⟨rfl,HB1.o⟩
theorem yD (name:ByteArray)(hN:name.size<=2000)(h:jI w l fo ak nf)(hx:(Tu.bT (Tu.one (Tu.vals name l))).2=false):
 Calls prog 127 #[.agg #[.pointer (some ⟨g,0,none⟩),.string m,.string t,.int .i64 mi,.slice fo nf ak,.int .i64 ln,.slice bo nb aj],.string name] w fun e w'=>jU w (Tu.said 400 []) e w':=by
 have bQ:=(Below.refl _ w).alloc (Nat.le_refl _) (.cells #[.pointer (some ⟨g,0,none⟩),.string m,.string t,.int .i64 mi,.slice fo nf ak,.int .i64 ln,.slice bo nb aj] 123);have hz:=h.val name;have hco:=Tu.En (Tu.vals name l);generalize hv:Tu.one (Tu.vals name l)=r at *;obtain⟨v,c⟩:=r;have jr:=H9 bQ;obtain⟨x0,x1,x2,x3,x4,x5,x6⟩:=ny (g:=g) (m:=m) (t:=t) (mi:=mi) (ln:=ln) (fo:=fo) (ak:=ak) (nf:=nf) (bo:=bo) (aj:=aj) (nb:=nb) (w:=w) (Below.refl _ _);simp only at hco hz;unfold Tu.bT at hx;by_cases RO:c=9
 . subst RO;have HT:=H9 (kQ (g:=g) (m:=m) (t:=t) (mi:=mi) (ln:=ln) (bo:=bo) (aj:=aj) (nb:=nb) name hN (h.stay bQ) hv);clear h bQ hv hz hx hco;go_enter func127,ntmps127;go_wp2_with fail
   refine HT.o.mono ?_;rintro e w2 hG;have HG:=H9 (hG.from_ jr.o);obtain⟨ao,cap,n,he,_,_,_⟩:=hG;unfold aX at he;subst he;go_wp2;exact⟨rfl,HG.o⟩
 . have ZB:c≠10:=fun e=>by subst e;rw[if_pos rfl] at hx;cases hx
   obtain rfl:c=0:=by omega
   rw[if_neg (by simp)] at hx;have hx2:(Ch.number 10 9 v).2=false:=by
    cases e:(Ch.number 10 9 v).2 with
    | false=>rfl
    | true=>simp[e] at hx
   have HT:=H9 (qL (g:=g) (m:=m) (t:=t) (mi:=mi) (ln:=ln) (bo:=bo) (aj:=aj) (nb:=nb) name hN (h.stay bQ) hv);have Ep:Hid (∀W,Calls prog 124 #[.string ⟨v.toArray⟩] W fun e w'=>e=.returned (.tuple #[.int .i64 (Ch.number 10 9 v).1,.bool false])∧w'=W):=fun W=>by
    have:=iW ⟨v.toArray⟩ W (by show v.toArray.size<=_;rw[List.size_toArray];unfold maxLen;omega);rw[show(⟨v.toArray⟩:ByteArray).data.toList=v from by simp,hx2] at this;exact this
   clear h bQ hv hz hx hco hx2 RO ZB;generalize (Ch.number 10 9 v).1=y at *;generalize (⟨v.toArray⟩:ByteArray)=vb at *;go_enter func127,ntmps127;go_wp2_with fail
   refine HT.o.mono ?_;rintro e w1 ⟨rfl,hb1⟩;have HB1:=H9 (then_ jr.o hb1);clear hb1 HT jr;go_wp2_with fail
   refine(Ep.o w1).mono ?_;rintro e w2 ⟨rfl,hw⟩;rw[hw];clear hw;go_wp2_with fail
   refine(bB 400 400 rfl w1).mono ?_;rintro e w2 hG;have HG:=H9 (hG.from_ HB1.o);obtain⟨ao,cap,n,he,_,_,_⟩:=hG;unfold aX at he;subst he;go_wp2;exact⟨rfl,HG.o⟩
end
section
variable {g:Nat} {m t:ByteArray} {mi ln:Int} {l:List (ByteArray×ByteArray)} {fo:Option Addr} {ak nf:Nat} {bo:Option Addr} {aj nb:Nat} {w:World}
theorem jU.ends {w w1 w2:World}{r:Tu.qY}{e:Ending}(hb:Below w.heap.size w w1)(hG:jU w1 r e w2):Hid (jU w r e w2)∧∃(ao:Option Addr) (cap n:Nat),e=aX (r.1:Int) ao n cap:=by
 refine⟨hG.from_ hb,?_⟩;obtain⟨ao,cap,n,he,_⟩:=hG;exact⟨ao,cap,n,he⟩
theorem Tu.A8 {r:List UInt8×Nat}(hc:r.2≠10){x:Int}(hx:Tu.bT r=(x,true)):0<=x:=by
 unfold Tu.bT at hx;rw[if_neg hc] at hx;injection hx with h1 h2;rw[Bool.and_eq_true] at h2;rw[<-h1];exact(Ch.jW h2.1).1
theorem Tu.yI {r:List UInt8×Nat}(hc:r.2=10):Tu.bT r=(-1,true):=by unfold Tu.bT;rw[if_pos hc]
def Tu.pV (l:List (ByteArray×ByteArray)):Prop:=(Tu.one (Tu.vals Tu.NJ l)).2=9∨((Tu.one (Tu.vals Tu.NJ l)).2=0∧(Tu.one (Tu.vals Tu.NJ l)).1≠Tu.qH.data.toList)∨(0<=(Tu.bT (Tu.one (Tu.vals Tu.xg l))).1<->(Tu.one (Tu.vals Tu.NJ l)).2=0)
theorem K7 (h:jI w l fo ak nf)(hx:(Tu.bT (Tu.one (Tu.vals Tu.xg l))).2=false):
 Calls prog 118 #[.agg #[.pointer (some ⟨g,0,none⟩),.string m,.string t,.int .i64 mi,.slice fo nf ak,.int .i64 ln,.slice bo nb aj]] w fun e w'=>jU w (Tu.said 400 []) e w':=by
 have bQ:=(Below.refl _ w).alloc (Nat.le_refl _) (.cells #[.pointer (some ⟨g,0,none⟩),.string m,.string t,.int .i64 mi,.slice fo nf ak,.int .i64 ln,.slice bo nb aj] 123);have jr:=H9 bQ;obtain⟨x0,x1,x2,x3,x4,x5,x6⟩:=ny (g:=g) (m:=m) (t:=t) (mi:=mi) (ln:=ln) (fo:=fo) (ak:=ak) (nf:=nf) (bo:=bo) (aj:=aj) (nb:=nb) (w:=w) (Below.refl _ _);have HN:=H9 (yD (g:=g) (m:=m) (t:=t) (mi:=mi) (ln:=ln) (bo:=bo) (aj:=aj) (nb:=nb) Tu.xk (by decide) (h.stay bQ) (by rw[Tu.oF];exact hx));unfold Tu.xk at HN;clear h bQ hx;go_enter func118,ntmps118;go_wp2_with fail
 refine HN.o.mono ?_;rintro e w2 hG;obtain⟨HG,ao,cap,n,he⟩:=hG.ends jr.o;unfold aX at he;subst he;go_wp2;exact⟨rfl,HG.o⟩
theorem K8 (h:jI w l fo ak nf)(hx:(Tu.bT (Tu.one (Tu.vals Tu.xg l))).2=true):
 (Tu.pV l->Calls prog 118 #[.agg #[.pointer (some ⟨g,0,none⟩),.string m,.string t,.int .i64 mi,.slice fo nf ak,.int .i64 ln,.slice bo nb aj]] w fun e w'=>jU w (Tu.said 400 []) e w') ∧
 (¬Tu.pV l->Calls prog 118 #[.agg #[.pointer (some ⟨g,0,none⟩),.string m,.string t,.int .i64 mi,.slice fo nf ak,.int .i64 ln,.slice bo nb aj]] w fun e w'=>e=.returned (.int .i64 (Tu.bT (Tu.one (Tu.vals Tu.xg l))).1)∧Below w.heap.size w w'):=by
 have bQ:=(Below.refl _ w).alloc (Nat.le_refl _) (.cells #[.pointer (some ⟨g,0,none⟩),.string m,.string t,.int .i64 mi,.slice fo nf ak,.int .i64 ln,.slice bo nb aj] 123);have jr:=H9 bQ;have HC:Hid (∀W,Below (w.alloc (.cells #[.pointer (some ⟨g,0,none⟩),.string m,.string t,.int .i64 mi,.slice fo nf ak,.int .i64 ln,.slice bo nb aj] 123)).heap.size (w.alloc (.cells #[.pointer (some ⟨g,0,none⟩),.string m,.string t,.int .i64 mi,.slice fo nf ak,.int .i64 ln,.slice bo nb aj] 123)) W->W.cell? ⟨w.heap.size,0,none⟩=some (.pointer (some ⟨g,0,none⟩))∧W.cell? ⟨w.heap.size,1,none⟩=some (.string m)∧W.cell? ⟨w.heap.size,2,none⟩=some (.string t)∧W.cell? ⟨w.heap.size,3,none⟩=some (.int .i64 mi)∧W.cell? ⟨w.heap.size,4,none⟩=some (.slice fo nf ak)∧W.cell? ⟨w.heap.size,5,none⟩=some (.int .i64 ln)∧W.cell? ⟨w.heap.size,6,none⟩=some (.slice bo nb aj)):=fun W hW=>ny hW;obtain⟨x0,x1,x2,x3,x4,x5,x6⟩:=HC.o _ (Below.refl _ _);have key:∃(y:Int) (told:Bool),Hid ((Tu.bT (Tu.one (Tu.vals Tu.xg l))).1=(if told then y else -1)∧(told=true->0<=y))∧∀W,Below w.heap.size w W->Calls prog 127 #[.agg #[.pointer (some ⟨g,0,none⟩),.string m,.string t,.int .i64 mi,.slice fo nf ak,.int .i64 ln,.slice bo nb aj],.string Tu.xk] W fun e w'=>e=.returned (.tuple #[.int .i64 y,.bool told])∧Below W.heap.size W w':=by
  by_cases hc:(Tu.one (Tu.vals Tu.xg l)).2=10
  . exact⟨0,false,⟨by rw[Tu.yI hc];rfl,fun e=>by cases e⟩,fun W hW=>sD Tu.xk (by decide) (h.stay hW) (by rw[Tu.oF];exact hc)⟩
  . generalize hy:Tu.bT (Tu.one (Tu.vals Tu.xg l))=r at *;obtain⟨y,b⟩:=r;simp only at hx;subst hx;exact⟨y,true,⟨rfl,fun _=>Tu.A8 hc hy⟩,fun W hW=>vB Tu.xk (by decide) (h.stay hW) (by rw[Tu.oF];exact hc) (by rw[Tu.oF];exact hy)⟩
 obtain⟨y,told,HY,EA⟩:=key;have Ep:=H9 (EA _ bQ);unfold Tu.xk at Ep;have hco:=Tu.En (Tu.vals Tu.NJ l);unfold Tu.pV;generalize hv:Tu.one (Tu.vals Tu.NJ l)=r at *;obtain⟨v,c⟩:=r;have Wn:Tu.one (Tu.vals Tu.xq l)=(v,c):=by rw[Tu.OT];exact hv
 simp only at hco;have HF:=H9 h;clear h bQ hv EA hx;generalize (Tu.bT (Tu.one (Tu.vals Tu.xg l))).1=z at *;rcases hco with rfl | rfl | rfl
 . have qg:Hid (∀W,Below w.heap.size w W->Calls prog 85 #[.agg #[.pointer (some ⟨g,0,none⟩),.string m,.string t,.int .i64 mi,.slice fo nf ak,.int .i64 ln,.slice bo nb aj],.string Tu.xq] W fun e w'=>e=.returned (.tuple #[.string ⟨v.toArray⟩,.bool true])∧Below W.heap.size W w'):=fun W hW=>qL Tu.xq (by decide) (HF.o.stay hW) Wn;unfold Tu.xq at qg;obtain⟨b1,hb1⟩:∃b,((⟨v.toArray⟩:ByteArray).toList==([49]:List UInt8))=b:=⟨_,rfl⟩;have e1:v=Tu.qH.data.toList<->b1=true:=by rw[<-hb1];exact Tu.YT v _
   have H1e:=H9 e1;clear e1 Wn;generalize (⟨v.toArray⟩:ByteArray)=vb at *;refine⟨fun hbad=>?_,fun hok=>?_⟩
   . have yJ:=H9 hbad;clear hbad;go_enter func118,ntmps118;go_wp2_with fail
     refine Ep.o.mono ?_;rintro e w1 ⟨rfl,hw1⟩;have HB1:=H9 (then_ jr.o hw1);clear x0 x1 x2 x3 x4 x5 x6;obtain⟨x0,x1,x2,x3,x4,x5,x6⟩:=HC.o _ hw1;clear hw1 Ep;go_wp2_with fail
     refine(qg.o w1 HB1.o).mono ?_;rintro e w2 ⟨rfl,hw2⟩;have HB2:=H9 (then_ HB1.o hw2);clear hw2 qg x0 x1 x2 x3 x4 x5 x6;cases b1 with
     | false =>
       go_wp2_with fail
       refine(bB 400 400 rfl w2).mono ?_;rintro e w9 hG;obtain⟨HG,ao,cap,n,he⟩:=hG.ends HB2.o;unfold aX at he;subst he;clear hG;go_wp2;exact⟨rfl,HG.o⟩
     | true =>
       go_wp2_with fail
       refine(aW 400 none 0 0 w2).mono ?_;rintro e w3 ⟨rfl,hw⟩;rw[hw];clear hw;cases told with
       | false =>
         exfalso;have h1:=yJ.o;have h2:=HY.o.1;simp only[Bool.false_eq_true,if_false] at h2;rcases h1 with h1 | h1 | h1
         . cases h1
         . exact h1.2 (H1e.o.2 (by first | exact rfl | trivial))
         . have:=h1.2 (by first | exact rfl | trivial);omega
       | true =>
         go_wp2_with fail
         refine(bB 400 400 rfl w2).mono ?_;rintro e w9 hG;obtain⟨HG,ao,cap,n,he⟩:=hG.ends HB2.o;unfold aX at he;subst he;clear hG;go_wp2;exact⟨rfl,HG.o⟩
   . have lg:=H9 hok;clear hok;have hb:b1=true:=by
      cases b1 with
      | true=>rfl
      | false=>exact absurd (Or.inr (Or.inl ⟨rfl,fun e=>by have:=H1e.o.1 e;cases this⟩)) lg.o
     subst hb;have ht:told=false:=by
      cases told with
      | false=>rfl
      | true =>
        refine absurd (Or.inr (Or.inr ⟨fun _=>rfl,fun _=>?_⟩)) lg.o;have h2:=HY.o.1;have h3:=HY.o.2 rfl;rw[h2];exact h3
     subst ht;have hz:z=-1:=HY.o.1;subst hz;go_enter func118,ntmps118;go_wp2_with fail
     refine Ep.o.mono ?_;rintro e w1 ⟨rfl,hw1⟩;have HB1:=H9 (then_ jr.o hw1);clear x0 x1 x2 x3 x4 x5 x6;obtain⟨x0,x1,x2,x3,x4,x5,x6⟩:=HC.o _ hw1;clear hw1 Ep;go_wp2_with fail
     refine(qg.o w1 HB1.o).mono ?_;rintro e w2 ⟨rfl,hw2⟩;have HB2:=H9 (then_ HB1.o hw2);clear hw2 qg x0 x1 x2 x3 x4 x5 x6;go_wp2_with fail
     refine(aW 400 none 0 0 w2).mono ?_;rintro e w3 ⟨rfl,hw⟩;rw[hw];clear hw;go_wp2_with fail
     refine(aW 400 none 0 0 w2).mono ?_;rintro e w3 ⟨rfl,hw⟩;rw[hw];clear hw;go_wp2;go_ret;exact⟨rfl,HB2.o⟩
 . refine⟨fun _=>?_,fun hok=>absurd (Or.inl rfl) hok⟩;have qg:Hid (∀W,Below w.heap.size w W->Calls prog 85 #[.agg #[.pointer (some ⟨g,0,none⟩),.string m,.string t,.int .i64 mi,.slice fo nf ak,.int .i64 ln,.slice bo nb aj],.string Tu.xq] W fun e w'=>jU W (Tu.said 400 []) e w'):=fun W hW=>kQ Tu.xq (by decide) (HF.o.stay hW) Wn;unfold Tu.xq at qg;clear Wn;go_enter func118,ntmps118;go_wp2_with fail
   refine Ep.o.mono ?_;rintro e w1 ⟨rfl,hw1⟩;have HB1:=H9 (then_ jr.o hw1);clear x0 x1 x2 x3 x4 x5 x6;obtain⟨x0,x1,x2,x3,x4,x5,x6⟩:=HC.o _ hw1;clear hw1 Ep;go_wp2_with fail
   refine(qg.o w1 HB1.o).mono ?_;rintro e w9 hG;obtain⟨HG,ao,cap,n,he⟩:=hG.ends HB1.o;unfold aX at he;subst he;clear hG;go_wp2;exact⟨rfl,HG.o⟩
 . have qg:Hid (∀W,Below w.heap.size w W->Calls prog 85 #[.agg #[.pointer (some ⟨g,0,none⟩),.string m,.string t,.int .i64 mi,.slice fo nf ak,.int .i64 ln,.slice bo nb aj],.string Tu.xq] W fun e w'=>e=.returned (.tuple #[.string ⟨v.toArray⟩,.bool false])∧Below W.heap.size W w'):=fun W hW=>AX Tu.xq (by decide) (HF.o.stay hW) Wn;unfold Tu.xq at qg;clear Wn;generalize (⟨v.toArray⟩:ByteArray)=vb at *;cases told with
   | false =>
     have hz:z=-1:=HY.o.1;refine⟨fun _=>?_,fun hok=>absurd (Or.inr (Or.inr ⟨fun e=>by omega,fun e=>by cases e⟩)) hok⟩;go_enter func118,ntmps118;go_wp2_with fail
     refine Ep.o.mono ?_;rintro e w1 ⟨rfl,hw1⟩;have HB1:=H9 (then_ jr.o hw1);clear x0 x1 x2 x3 x4 x5 x6;obtain⟨x0,x1,x2,x3,x4,x5,x6⟩:=HC.o _ hw1;clear hw1 Ep;go_wp2_with fail
     refine(qg.o w1 HB1.o).mono ?_;rintro e w2 ⟨rfl,hw2⟩;have HB2:=H9 (then_ HB1.o hw2);clear hw2 qg x0 x1 x2 x3 x4 x5 x6;go_wp2_with fail
     refine(aW 400 none 0 0 w2).mono ?_;rintro e w3 ⟨rfl,hw⟩;rw[hw];clear hw;go_wp2_with fail
     refine(bB 400 400 rfl w2).mono ?_;rintro e w9 hG;obtain⟨HG,ao,cap,n,he⟩:=hG.ends HB2.o;unfold aX at he;subst he;clear hG;go_wp2;exact⟨rfl,HG.o⟩
   | true =>
     have hz:z=y:=HY.o.1;subst hz;have hpos:=HY.o.2 rfl;refine⟨fun hbad=>?_,fun _=>?_⟩
     . exfalso;rcases hbad with e | e | e
       . cases e
       . cases e.1
       . have:=e.1 hpos;cases this
     clear hpos;go_enter func118,ntmps118;go_wp2_with fail
     refine Ep.o.mono ?_;rintro e w1 ⟨rfl,hw1⟩;have HB1:=H9 (then_ jr.o hw1);clear x0 x1 x2 x3 x4 x5 x6;obtain⟨x0,x1,x2,x3,x4,x5,x6⟩:=HC.o _ hw1;clear hw1 Ep;go_wp2_with fail
     refine(qg.o w1 HB1.o).mono ?_;rintro e w2 ⟨rfl,hw2⟩;have HB2:=H9 (then_ HB1.o hw2);clear hw2 qg x0 x1 x2 x3 x4 x5 x6;go_wp2_with fail
     refine(aW 400 none 0 0 w2).mono ?_;rintro e w3 ⟨rfl,hw⟩;rw[hw];clear hw;go_wp2_with fail
     refine(aW 400 none 0 0 w2).mono ?_;rintro e w3 ⟨rfl,hw⟩;rw[hw];clear hw;go_wp2;go_ret;exact⟨rfl,HB2.o⟩
end
def Tu.inside (s:ByteArray):Bool:=decide (7<=s.size)&&decide (s.data.toList.take 7=Tu.fD.data.toList)
theorem qN (s:ByteArray)(w:World)(hs:s.size<=100000):Calls prog 82 #[.string s,.string ⟨#[47,102,105,108,101,115,47]⟩] w fun e w'=>e=.returned (.bool (Tu.inside s))∧w'=w:=by
 by_cases h7:7<=s.size
 . have YZ:(7:Int)<=(s.size:Int):=by omega
   obtain⟨b,hb⟩:∃b,((s.extract 0 7).toList==([47,102,105,108,101,115,47]:List UInt8))=b:=⟨_,rfl⟩;have HI:Hid (Tu.inside s=b):=by
    unfold Hid Tu.inside;rw[decide_eq_true h7,Bool.true_and,<-hb,Tu.ZA];rw[Bool.eq_iff_iff,decide_eq_true_eq,beq_iff_eq];rfl
   rw[HI.o];go_enter func82,ntmps82;go_wp2;go_ret;exact⟨rfl,rfl⟩
 . have YZ:¬(7:Int)<=(s.size:Int):=by omega
   have HI:Hid (Tu.inside s=false):=by
    unfold Hid Tu.inside;rw[decide_eq_false h7,Bool.false_and]
   rw[HI.o];go_enter func82,ntmps82;go_wp2;go_ret;exact⟨rfl,rfl⟩
theorem vD (s:ByteArray)(w:World)(hs:s.size<=100000):Calls prog 49 #[.string s,.string ⟨#[47,102,105,108,101,115,47]⟩] w fun e w'=>e=.returned (.bool (Tu.inside s))∧w'=w:=by
 have HH:=H9 (qN s w hs);generalize Tu.inside s=b at *;go_enter func49,ntmps49;go_wp2_with fail
 refine HH.o.mono ?_;rintro e w1 ⟨rfl,hw⟩;rw[hw];go_wp2;go_ret;exact⟨rfl,rfl⟩
theorem K9 (s:ByteArray)(w:World)(hs:s.size<=100000):Calls prog 108 #[.string s] w fun e w'=>e=.returned (.bool (Tu.ours s))∧w'=w:=by
 have HH:=H9 (vD s w hs);obtain⟨b,hb⟩:∃b,(s.toList==([47,102,105,108,101,115]:List UInt8))=b:=⟨_,rfl⟩;have e1:s=Tu.lS<->b=true:=by rw[<-hb];exact Tu.QT s Tu.lS _ rfl
 have HO:Hid (Tu.ours s=(b||Tu.inside s)):=by
  unfold Hid Tu.ours;rw[show decide (s=Tu.lS)=b from by rw[Bool.eq_iff_iff,decide_eq_true_eq];exact e1];rfl
 rw[HO.o];clear e1 HO;generalize Tu.inside s=c at *;cases b with
 | true =>
   go_enter func108,ntmps108;go_wp2;go_ret;exact⟨rfl,rfl⟩
 | false =>
   go_enter func108,ntmps108;go_wp2_with fail
   refine HH.o.mono ?_;rintro e w1 ⟨rfl,hw⟩;rw[hw];go_wp2;go_ret;exact⟨by simp,rfl⟩
theorem GU (s:ByteArray)(w:World)(hs:s.size<=100000)(hi:Tu.inside s=true):Calls prog 123 #[.string s,.string ⟨#[47,102,105,108,101,115,47]⟩] w fun e w'=>e=.returned (.tuple #[.string (s.extract 7 s.size),.bool true])∧w'=w:=by
 have HH:=H9 (qN s w hs);rw[hi] at HH;have h7:7<=s.size:=by
  unfold Tu.inside at hi;rw[Bool.and_eq_true,decide_eq_true_eq] at hi;exact hi.1
 have YZ:(7:Int)<=(s.size:Int):=by omega
 have HC:Hid (Calls prog 165 #[.string s,.string ⟨#[47,102,105,108,101,115,47]⟩] w fun e w'=>e=.returned (.tuple #[.string (s.extract 7 s.size),.bool true])∧w'=w):=by
  unfold Hid;clear hi;go_enter func165,ntmps165;go_wp2_with fail
  refine HH.o.mono ?_;rintro e w1 ⟨rfl,hw⟩;rw[hw];go_wp2;go_ret2;exact⟨rfl,rfl⟩
 clear HH hi h7 YZ;generalize s.extract 7 s.size=x at *;go_enter func123,ntmps123;go_wp2_with fail
 refine HC.o.mono ?_;rintro e w1 ⟨rfl,hw⟩;rw[hw];go_wp2;go_ret2;exact⟨rfl,rfl⟩
theorem La (s:ByteArray)(w:World)(hs:s.size<=100000)(hi:Tu.inside s=false):Calls prog 123 #[.string s,.string ⟨#[47,102,105,108,101,115,47]⟩] w fun e w'=>e=.returned (.tuple #[.string s,.bool false])∧w'=w:=by
 have HH:=H9 (qN s w hs);rw[hi] at HH;have HC:Hid (Calls prog 165 #[.string s,.string ⟨#[47,102,105,108,101,115,47]⟩] w fun e w'=>e=.returned (.tuple #[.string s,.bool false])∧w'=w):=by
  unfold Hid;clear hi;go_enter func165,ntmps165;go_wp2_with fail
  refine HH.o.mono ?_;rintro e w1 ⟨rfl,hw⟩;rw[hw];go_wp2;go_ret2;exact⟨rfl,rfl⟩
 clear HH hi;go_enter func123,ntmps123;go_wp2_with fail
 refine HC.o.mono ?_;rintro e w1 ⟨rfl,hw⟩;rw[hw];go_wp2;go_ret2;exact⟨rfl,rfl⟩
inductive fK (S:Nat->Prop)(w:World)(g:Nat)(r:Sr.Sh×Tu.qY):Ending->World->Prop
 | ret {ao:Option Addr} {cap n:Nat} {w':World} (hn:r.2.2.length=n) (hO:aC w' w.heap.size 111 2 ao cap n (aB r.2.2)) (hat:aN w' (av S w) g r.1) (hT:Turns S w w'):fK S w g r (.returned (.agg #[.int .i64 (r.2.1:Int),.slice ao n cap,.slice none 0 0])) w'
 | gave {ao:Option Addr} {cap n:Nat} {w':World} (hn:r.2.2.length=n) (hO:aC w' w.heap.size 111 2 ao cap n (aB r.2.2)) (hat:aN w' (av S w) g r.1) (hT:Turns S w w'):fK S w g r (aX (r.2.1:Int) ao n cap) w'
theorem fK.of {S:Nat->Prop}{w:World}{g:Nat}{r:Sr.Sh×Tu.qY}{e:Ending}{w':World}(h:sj aN S w g r e w'):fK S w g r e w':=by
 obtain⟨⟨ao,cap,n,rfl,hn,hO⟩,hat,hT⟩:=h;exact .ret hn hO hat hT
structure oN (w0 w:World)(S:Nat->Prop):Prop where
 pow:gU w0
 nR:Below w0.heap.size w0 w
 far:∀k,S k->w0.heap.size<=k
section
variable {S S':Nat->Prop} {w0 w W W':World} {g:Nat} {bs:List Obj} {s:Sr.Sh}
theorem bP.new {O:Tx}(h:bP O S w g bs s S' W):∀k,S' k->av S w k:=fun k e=>by
 rcases h.ap k e with h2 | h2
 . exact Or.inl h2.1
 . exact Or.inr (by omega)
theorem bP.pow {O:Tx}(h:bP O S w g bs s S' W)(p:oN w0 w S):gU W:=p.pow.stay (p.nR.trans (h.tu.below (fun k e=>p.far k e.1) p.nR.size))
theorem bP.fell (h:bP aN S w g bs s S' W){rep:Tu.qY}{e:Ending}(hg:jU W rep e W'):Hid (fK S w g (s,rep) e W')∧∃(ao:Option Addr) (cap n:Nat),e=aX (rep.1:Int) ao n cap:=by
 obtain⟨ao,cap,n,rfl,hn,hO,hB⟩:=hg;have h1:=h.stay aQ hB;exact⟨.gave hn (hO.mono (Nat.le_trans (Nat.le_add_right _ _) h.sz)) (h1.sh.mono (fun k _ e=>h1.new k e)) (h1.tu.mono (fun k e=>e.1)),ao,cap,n,rfl⟩
theorem bP.EX (h:bP aN S w g bs s S' W){r:Sr.Sh×Tu.qY}{ao:Option Addr}{cap n:Nat}(hn:r.2.2.length=n)(hO:aC W' W.heap.size 111 2 ao cap n (aB r.2.2))(hat:aN W' (av S' W) g r.1)(hT:Turns S' W W'):fK S w g r (aX (r.2.1:Int) ao n cap) W':=by
 have h1:=h.did hat hT;exact .gave hn (hO.mono (Nat.le_trans (Nat.le_add_right _ _) h.sz)) (h1.sh.mono (fun k _ e=>h1.new k e)) (h1.tu.mono (fun k e=>e.1))
end
section
variable {g:Nat} {m t:ByteArray} {mi ln:Int} {l:List (ByteArray×ByteArray)} {fo:Option Addr} {ak nf:Nat} {bo:Option Addr} {aj nb:Nat} {w:World} {S:Nat->Prop} {s:Sr.Sh}
theorem JQ (h:aN w S g s)(ob:Obj):bP aN S w g [.cells #[.pointer (some ⟨g,0,none⟩),.string m,.string t,.int .i64 mi,.slice fo nf ak,.int .i64 ln,.slice bo nb aj] 123 (0,0),ob] s (fun k=>S k∧k<w.heap.size) ((w.alloc (.cells #[.pointer (some ⟨g,0,none⟩),.string m,.string t,.int .i64 mi,.slice fo nf ak,.int .i64 ln,.slice bo nb aj] 123)).alloc ob):=by
 have hz:(w.alloc (.cells #[.pointer (some ⟨g,0,none⟩),.string m,.string t,.int .i64 mi,.slice fo nf ak,.int .i64 ln,.slice bo nb aj] 123)).heap.size=w.heap.size+1:=World.size_alloc ..;exact((bP.start aQ h).box aQ rfl (fun k e=>e.2) _).box aQ hz (fun k e=>by rw[hz];have:=e.2;omega) _
theorem bP.ex {bs:List Obj}{S':Nat->Prop}{s':Sr.Sh}{W:World}(h:bP aN S w g (.cells #[.pointer (some ⟨g,0,none⟩),.string m,.string t,.int .i64 mi,.slice fo nf ak,.int .i64 ln,.slice bo nb aj] 123 (0,0)::bs) s' S' W):W.cell? ⟨w.heap.size,0,none⟩=some (.pointer (some ⟨g,0,none⟩))∧W.cell? ⟨w.heap.size,1,none⟩=some (.string m)∧W.cell? ⟨w.heap.size,2,none⟩=some (.string t)∧W.cell? ⟨w.heap.size,3,none⟩=some (.int .i64 mi)∧W.cell? ⟨w.heap.size,4,none⟩=some (.slice fo nf ak)∧W.cell? ⟨w.heap.size,5,none⟩=some (.int .i64 ln)∧W.cell? ⟨w.heap.size,6,none⟩=some (.slice bo nb aj):=by
 have r:=h.row 0 rfl;exact⟨cell_of_row W _ 0 _ _ _ r,cell_of_row W _ 1 _ _ _ r,cell_of_row W _ 2 _ _ _ r,cell_of_row W _ 3 _ _ _ r,cell_of_row W _ 4 _ _ _ r,cell_of_row W _ 5 _ _ _ r,cell_of_row W _ 6 _ _ _ r⟩
theorem vK (h:aN w S g s)(ok:Sr.Ok s)(hP:gU w)(ht:t.size<=100000):
 (Tu.tQ s.h t=none->Calls prog 89 #[.agg #[.pointer (some ⟨g,0,none⟩),.string m,.string t,.int .i64 mi,.slice fo nf ak,.int .i64 ln,.slice bo nb aj]] w fun e w'=>jU w (Tu.said 404 []) e w') ∧
 (∀u,Tu.tQ s.h t=some u->Calls prog 89 #[.agg #[.pointer (some ⟨g,0,none⟩),.string m,.string t,.int .i64 mi,.slice fo nf ak,.int .i64 ln,.slice bo nb aj]] w fun e w'=>∃(ao:Option Addr) (cap:Nat),e=.returned (.agg #[.int .i64 u.id,.int .i64 u.size,.string u.note,.slice ao u.bytes.length cap,.int .i64 u.sent])∧Below w.heap.size w w'):=by
 have T2:bP aN S w g [.cells #[.pointer (some ⟨g,0,none⟩),.string m,.string t,.int .i64 mi,.slice fo nf ak,.int .i64 ln,.slice bo nb aj] 123 (0,0),.cells #[.int .i64 0,.int .i64 0,.string ⟨#[]⟩,.slice none 0 0,.int .i64 0] 101] s (fun k=>S k∧k<w.heap.size) ((w.alloc (.cells #[.pointer (some ⟨g,0,none⟩),.string m,.string t,.int .i64 mi,.slice fo nf ak,.int .i64 ln,.slice bo nb aj] 123)).alloc (.cells #[.int .i64 0,.int .i64 0,.string ⟨#[]⟩,.slice none 0 0,.int .i64 0] 101)):=JQ h _;have HB2:Hid (Below w.heap.size w ((w.alloc (.cells #[.pointer (some ⟨g,0,none⟩),.string m,.string t,.int .i64 mi,.slice fo nf ak,.int .i64 ln,.slice bo nb aj] 123)).alloc (.cells #[.int .i64 0,.int .i64 0,.string ⟨#[]⟩,.slice none 0 0,.int .i64 0] 101))):=then_ ((Below.refl _ w).alloc (Nat.le_refl _) _) ((Below.refl _ _).alloc (Nat.le_refl _) _);have HC:Hid (∀W,bP aN S w g [.cells #[.pointer (some ⟨g,0,none⟩),.string m,.string t,.int .i64 mi,.slice fo nf ak,.int .i64 ln,.slice bo nb aj] 123 (0,0),.cells #[.int .i64 0,.int .i64 0,.string ⟨#[]⟩,.slice none 0 0,.int .i64 0] 101] s (fun k=>S k∧k<w.heap.size) W->W.cell? ⟨w.heap.size,0,none⟩=some (.pointer (some ⟨g,0,none⟩))∧W.cell? ⟨w.heap.size,1,none⟩=some (.string m)∧W.cell? ⟨w.heap.size,2,none⟩=some (.string t)∧W.cell? ⟨w.heap.size,3,none⟩=some (.int .i64 mi)∧W.cell? ⟨w.heap.size,4,none⟩=some (.slice fo nf ak)∧W.cell? ⟨w.heap.size,5,none⟩=some (.int .i64 ln)∧W.cell? ⟨w.heap.size,6,none⟩=some (.slice bo nb aj)):=fun W hW=>hW.ex;obtain⟨x0,x1,x2,x3,x4,x5,x6⟩:=HC.o _ T2;have H2:=H9 T2;clear T2;obtain⟨gs,gl,lo,lca,P,hI⟩:=h;have HG:Hid (∀W,Below w.heap.size w W->W.cell? ⟨g,0,none⟩=some (.pointer (some ⟨gs,0,none⟩))∧bq W P gs s.h):=fun W hW=>⟨cell_of_row W _ 0 _ _ _ (hI.stay hW).row,(hI.stay hW).ow⟩;have lg:=H9 ok;have Bn:=H9 hP;clear hI ok hP;cases hin:Tu.inside t with
 | false =>
   have Wz:Hid (∀W,Calls prog 123 #[.string t,.string ⟨#[47,102,105,108,101,115,47]⟩] W fun e w'=>e=.returned (.tuple #[.string t,.bool false])∧w'=W):=fun W=>La t W ht hin;have lY:Hid (∀W,Calls prog 124 #[.string t] W fun e w'=>e=.returned (.tuple #[.int .i64 (Ch.number 10 9 t.data.toList).1,.bool (Ch.number 10 9 t.data.toList).2])∧w'=W):=fun W=>iW t W (by unfold maxLen;omega);have hnone:Tu.tQ s.h t=none:=Tu.JG (fun x=>by
    unfold Tu.inside at hin;rw[decide_eq_true (by omega:7<=t.size),Bool.true_and,decide_eq_false_iff_not] at hin;exact hin x.2.1) s.h
   refine⟨fun _=>?_,fun u hu=>by rw[hnone] at hu;cases hu⟩;clear hnone hin;generalize Ch.number 10 9 t.data.toList=rn at *;obtain⟨n,okn⟩:=rn;go_enter func89,ntmps89;go_wp2_with fail
   refine(Wz.o _).mono ?_;rintro e w1 ⟨rfl,hw⟩;rw[hw];clear hw;go_wp2_with fail
   refine(lY.o _).mono ?_;rintro e w1 ⟨rfl,hw⟩;rw[hw];clear hw;go_wp2_with fail
   refine(bB 404 404 rfl _).mono ?_;rintro e w9 hG;obtain⟨wO,cB,aL,n9,he⟩:=hG.ends HB2.o;unfold aX at he;subst he;clear hG;go_wp2;exact⟨rfl,wO.o⟩
 | true =>
   have Wz:Hid (∀W,Calls prog 123 #[.string t,.string ⟨#[47,102,105,108,101,115,47]⟩] W fun e w'=>e=.returned (.tuple #[.string (t.extract 7 t.size),.bool true])∧w'=W):=fun W=>GU t W ht hin;have lY:Hid (∀W,Calls prog 124 #[.string (t.extract 7 t.size)] W fun e w'=>e=.returned (.tuple #[.int .i64 (Ch.number 10 9 (t.data.toList.drop 7)).1,.bool (Ch.number 10 9 (t.data.toList.drop 7)).2])∧w'=W):=fun W=>by
    have:=iW (t.extract 7 t.size) W (by rw[ByteArray.size_extract];unfold maxLen;omega);rw[Tu.Tz] at this;exact this
   have hin2:t.data.toList.take 7=Tu.fD.data.toList:=by
    unfold Tu.inside at hin;rw[Bool.and_eq_true,decide_eq_true_eq,decide_eq_true_eq] at hin;exact hin.2
   have hsm:(Ch.number 10 9 (t.data.toList.drop 7)).2=true->0<=(Ch.number 10 9 (t.data.toList.drop 7)).1∧(Ch.number 10 9 (t.data.toList.drop 7)).1<1000000000∧7<t.size:=fun e=>⟨(Ch.jW e).1,(Ch.jW e).2,by
    rcases Nat.lt_or_ge 7 t.size with h | h
    . exact h
    . exfalso;rw[List.drop_eq_nil_of_le (by rw[Array.length_toList];exact h)] at e;revert e;decide⟩
   have hno:((Ch.number 10 9 (t.data.toList.drop 7)).2=false∨Ch.bY 8 (Ch.number 10 9 (t.data.toList.drop 7)).1.toNat≠t.data.toList.drop 7)->Tu.tQ s.h t=none:=fun e=>Tu.JG (fun x=>e.elim (fun e=>by have h3:=x.2.2.1;rw[e] at h3;cases h3) (fun e=>e x.2.2.2)) s.h;have hye:=fun(h7:7<t.size) (e:(Ch.number 10 9 (t.data.toList.drop 7)).2=true) (e2:Ch.bY 8 (Ch.number 10 9 (t.data.toList.drop 7)).1.toNat=t.data.toList.drop 7)=>Tu.OQ (t:=t) ⟨h7,hin2,e,e2⟩ s.h;clear hin hin2;generalize Ch.number 10 9 (t.data.toList.drop 7)=rn at *;obtain⟨n,okn⟩:=rn;simp only at hsm hno hye;cases okn with
   | false =>
     have hnone:=hno (Or.inl rfl);refine⟨fun _=>?_,fun u hu=>by rw[hnone] at hu;cases hu⟩;clear hno hye hsm hnone;generalize t.extract 7 t.size=nm at *;go_enter func89,ntmps89;go_wp2_with fail
     refine(Wz.o _).mono ?_;rintro e w1 ⟨rfl,hw⟩;rw[hw];clear hw;go_wp2_with fail
     refine(lY.o _).mono ?_;rintro e w1 ⟨rfl,hw⟩;rw[hw];clear hw;go_wp2_with fail
     refine(bB 404 404 rfl _).mono ?_;rintro e w9 hG;obtain⟨wO,cB,aL,n9,he⟩:=hG.ends HB2.o;unfold aX at he;subst he;clear hG;go_wp2;exact⟨rfl,wO.o⟩
   | true =>
     obtain⟨hn0,hn1,h7⟩:=hsm rfl;have Vh:Hid (∀W,Below w.heap.size w W->Calls prog 122 #[.int .i64 n] W fun e w'=>e=.returned (.string (Tu.dec n.toNat))∧Below W.heap.size W w'):=fun W hW=>by
      have:=mg n.toNat (by omega) W (Bn.o.stay hW);rw[show((n.toNat:Nat):Int)=n from by omega] at this;exact this
     have HI2:=H9 (Vh.o _ HB2.o);obtain⟨bs,hbs⟩:∃b,((Tu.dec n.toNat).toList==(t.extract 7 t.size).toList)=b:=⟨_,rfl⟩;have eS:Ch.bY 8 n.toNat=t.data.toList.drop 7<->bs=true:=by
      rw[<-hbs,Lib.toList_data,Lib.toList_data,Tu.Tz,beq_iff_eq];rfl
     generalize Tu.dec n.toNat=nd at *;cases bs with
     | false =>
       have hnone:=hno (Or.inr (fun e=>by have:=eS.1 e;cases this));refine⟨fun _=>?_,fun u hu=>by rw[hnone] at hu;cases hu⟩;clear hno hye hsm hnone eS;generalize t.extract 7 t.size=nm at *;go_enter func89,ntmps89;go_wp2_with fail
       refine(Wz.o _).mono ?_;rintro e w1 ⟨rfl,hw⟩;rw[hw];clear hw;go_wp2_with fail
       refine(lY.o _).mono ?_;rintro e w1 ⟨rfl,hw⟩;rw[hw];clear hw;go_wp2_with fail
       refine HI2.o.mono ?_;rintro e w3 ⟨rfl,hw3⟩;have HB3:=H9 (then_ HB2.o hw3);clear hw3 HI2;go_wp2_with fail
       refine(bB 404 404 rfl _).mono ?_;rintro e w9 hG;obtain⟨wO,cB,aL,n9,he⟩:=hG.ends HB3.o;unfold aX at he;subst he;clear hG;go_wp2;exact⟨rfl,wO.o⟩
     | true =>
       have hu:=hye h7 rfl (eS.2 rfl);clear hno hye hsm eS;generalize t.extract 7 t.size=nm at *;cases hp:Sp.place s.h.l n with
       | none =>
         rw[hp] at hu;simp only at hu;have Vi:Hid (∀W,Below w.heap.size w W->Calls prog 125 #[.pointer (some ⟨gs,0,none⟩),.int .i64 n] W fun e w'=>e=.returned (.tuple #[.agg #[.int .i64 0,.int .i64 0,.string ⟨#[]⟩,.slice none 0 0,.int .i64 0],.bool false])∧Below W.heap.size W w'):=fun W hW=>LQ s.h P gs n W (HG.o W hW).2 lg.o.h hp;refine⟨fun _=>?_,fun u hu2=>by rw[hu] at hu2;cases hu2⟩;clear hu hp;go_enter func89,ntmps89;go_wp2_with fail
         refine(Wz.o _).mono ?_;rintro e w1 ⟨rfl,hw⟩;rw[hw];clear hw;go_wp2_with fail
         refine(lY.o _).mono ?_;rintro e w1 ⟨rfl,hw⟩;rw[hw];clear hw;go_wp2_with fail
         refine HI2.o.mono ?_;rintro e w3 ⟨rfl,hw3⟩;have HB3:=H9 (then_ HB2.o hw3);have H3:=H9 (H2.o.stay aQ hw3);clear hw3 HI2 x0 x1 x2 x3 x4 x5 x6;obtain⟨x0,x1,x2,x3,x4,x5,x6⟩:=HC.o _ H3.o;have g0:=(HG.o _ HB3.o).1;go_wp2_with fail
         refine(aW 404 none 0 0 _).mono ?_;rintro e w1 ⟨rfl,hw⟩;rw[hw];clear hw;go_wp2_with fail
         refine(Vi.o _ HB3.o).mono ?_;rintro e w4 ⟨rfl,hw4⟩;have ig:=H9 (then_ (then_ HB3.o hw4) ((Below.refl _ w4).alloc (Nat.le_refl _) (.cells #[.int .i64 0,.int .i64 0,.string ⟨#[]⟩,.slice none 0 0,.int .i64 0] 101)));clear hw4 Vi x0 x1 x2 x3 x4 x5 x6 g0;go_wp2_with fail
         refine(bB 404 404 rfl _).mono ?_;rintro e w9 hG;obtain⟨wO,cB,aL,n9,he⟩:=hG.ends ig.o;unfold aX at he;subst he;clear hG;go_wp2;exact⟨rfl,wO.o⟩
       | some i =>
         rw[hp] at hu;simp only at hu;have hi:=Sp.l5 hp;rw[List.getElem?_eq_getElem hi] at hu;have Vi:Hid (∀W,Below w.heap.size w W->Calls prog 125 #[.pointer (some ⟨gs,0,none⟩),.int .i64 n] W fun e w'=>∃ao cap,e=.returned (.tuple #[.agg #[.int .i64 s.h.l[i].id,.int .i64 s.h.l[i].size,.string s.h.l[i].note,.slice ao s.h.l[i].bytes.length cap,.int .i64 s.h.l[i].sent],.bool true])∧aU w' ao cap s.h.l[i].bytes∧Below W.heap.size W w'):=fun W hW=>LU s.h P gs n i W (HG.o W hW).2 lg.o.h hp hi;generalize s.h.l[i]=u0 at *;refine⟨fun hu2=>(by rw[hu] at hu2;cases hu2),fun u hu2=>?_⟩;rw[hu] at hu2;injection hu2 with hu2;subst hu2;clear hu hp hi;generalize u0.bytes.length=ub at *;go_enter func89,ntmps89;go_wp2_with fail
         refine(Wz.o _).mono ?_;rintro e w1 ⟨rfl,hw⟩;rw[hw];clear hw;go_wp2_with fail
         refine(lY.o _).mono ?_;rintro e w1 ⟨rfl,hw⟩;rw[hw];clear hw;go_wp2_with fail
         refine HI2.o.mono ?_;rintro e w3 ⟨rfl,hw3⟩;have HB3:=H9 (then_ HB2.o hw3);have H3:=H9 (H2.o.stay aQ hw3);clear hw3 HI2 x0 x1 x2 x3 x4 x5 x6;obtain⟨x0,x1,x2,x3,x4,x5,x6⟩:=HC.o _ H3.o;have g0:=(HG.o _ HB3.o).1;go_wp2_with fail
         refine(aW 404 none 0 0 _).mono ?_;rintro e w1 ⟨rfl,hw⟩;rw[hw];clear hw;go_wp2_with fail
         refine(Vi.o _ HB3.o).mono ?_;rintro e w4 ⟨ao,cap,rfl,_,hw4⟩;have hb5:=(Below.refl _ w4).alloc (Nat.le_refl _) (.cells #[.int .i64 u0.id,.int .i64 u0.size,.string u0.note,.slice ao ub cap,.int .i64 u0.sent] 101);have kU:=H9 (then_ (then_ HB3.o hw4) hb5);have kW:=((H3.o.stay aQ hw4).stay aQ hb5).row 1 rfl;have Lf:=H9 kW;have v0:(w4.alloc (.cells #[.int .i64 u0.id,.int .i64 u0.size,.string u0.note,.slice ao ub cap,.int .i64 u0.sent] 101)).cell? ⟨w4.heap.size,0,none⟩=some (.int .i64 u0.id):=World.cell?_alloc_mark w4 _ _ _ 0;have v1:(w4.alloc (.cells #[.int .i64 u0.id,.int .i64 u0.size,.string u0.note,.slice ao ub cap,.int .i64 u0.sent] 101)).cell? ⟨w4.heap.size,1,none⟩=some (.int .i64 u0.size):=World.cell?_alloc_mark w4 _ _ _ 1;have v2:(w4.alloc (.cells #[.int .i64 u0.id,.int .i64 u0.size,.string u0.note,.slice ao ub cap,.int .i64 u0.sent] 101)).cell? ⟨w4.heap.size,2,none⟩=some (.string u0.note):=World.cell?_alloc_mark w4 _ _ _ 2;have v3:(w4.alloc (.cells #[.int .i64 u0.id,.int .i64 u0.size,.string u0.note,.slice ao ub cap,.int .i64 u0.sent] 101)).cell? ⟨w4.heap.size,3,none⟩=some (.slice ao ub cap):=World.cell?_alloc_mark w4 _ _ _ 3;have v4:(w4.alloc (.cells #[.int .i64 u0.id,.int .i64 u0.size,.string u0.note,.slice ao ub cap,.int .i64 u0.sent] 101)).cell? ⟨w4.heap.size,4,none⟩=some (.int .i64 u0.sent):=World.cell?_alloc_mark w4 _ _ _ 4;have z0:=cell_of_row _ _ 0 _ _ _ kW;have z1:=cell_of_row _ _ 1 _ _ _ kW;have z2:=cell_of_row _ _ 2 _ _ _ kW;have z3:=cell_of_row _ _ 3 _ _ _ kW;have z4:=cell_of_row _ _ 4 _ _ _ kW
         have y0:=frozen_of_row _ _ 0 _ _ kW;have y1:=frozen_of_row _ _ 1 _ _ kW;have y2:=frozen_of_row _ _ 2 _ _ kW;have y3:=frozen_of_row _ _ 3 _ _ kW;have y4:=frozen_of_row _ _ 4 _ _ kW
         simp at z0 z1 z2 z3 z4;clear hw4 Vi x0 x1 x2 x3 x4 x5 x6 g0 hb5 kW;go_upto_region 5 with fail
         generalize (w4.alloc (.cells #[.int .i64 u0.id,.int .i64 u0.size,.string u0.note,.slice ao ub cap,.int .i64 u0.sent] 101))=w5 at *;generalize w4.heap.size=k4 at *;go_wp2_with fail
         refine(aW 404 none 0 0 _).mono ?_;rintro e w1 ⟨rfl,hw⟩;rw[hw];clear hw;go_wp2;have hb6:=((((kU.o.setCell (p:=⟨w.heap.size+1,0,none⟩) (Nat.le_add_right _ _) (.int .i64 u0.id)).setCell (p:=⟨w.heap.size+1,1,none⟩) (Nat.le_add_right _ _) (.int .i64 u0.size)).setCell (p:=⟨w.heap.size+1,2,none⟩) (Nat.le_add_right _ _) (.string u0.note)).setCell (p:=⟨w.heap.size+1,3,none⟩) (Nat.le_add_right _ _) (.slice ao ub cap)).setCell (p:=⟨w.heap.size+1,4,none⟩) (Nat.le_add_right _ _) (.int .i64 u0.sent);have yU:=heap_setCell_same _ _ 4 _ _ (.int .i64 u0.sent) (heap_setCell_same _ _ 3 _ _ (.slice ao ub cap) (heap_setCell_same _ _ 2 _ _ (.string u0.note) (heap_setCell_same _ _ 1 _ _ (.int .i64 u0.size) (heap_setCell_same _ _ 0 _ _ (.int .i64 u0.id) Lf.o))));generalize (((((w5.setCell ⟨w.heap.size+1,0,none⟩ (Value.int .i64 u0.id)).setCell ⟨w.heap.size+1,1,none⟩ (Value.int .i64 u0.size)).setCell ⟨w.heap.size+1,2,none⟩ (Value.string u0.note)).setCell ⟨w.heap.size+1,3,none⟩ (Value.slice ao ub cap)).setCell ⟨w.heap.size+1,4,none⟩ (Value.int .i64 u0.sent))=w6 at hb6 yU ⊢;have r0:w6.cell? ⟨w.heap.size+1,0,none⟩=some (.int .i64 u0.id):=cell_of_row w6 _ 0 _ _ _ yU;have r1:w6.cell? ⟨w.heap.size+1,1,none⟩=some (.int .i64 u0.size):=cell_of_row w6 _ 1 _ _ _ yU;have r2:w6.cell? ⟨w.heap.size+1,2,none⟩=some (.string u0.note):=cell_of_row w6 _ 2 _ _ _ yU;have r3:w6.cell? ⟨w.heap.size+1,3,none⟩=some (.slice ao ub cap):=cell_of_row w6 _ 3 _ _ _ yU;have r4:w6.cell? ⟨w.heap.size+1,4,none⟩=some (.int .i64 u0.sent):=cell_of_row w6 _ 4 _ _ _ yU;exact bodyPost_ret (v:=.agg #[.int .i64 u0.id,.int .i64 u0.size,.string u0.note,.slice ao ub cap,.int .i64 u0.sent]) (by simp[results,results89,go_sem,r0,r1,r2,r3,r4]) rfl ⟨ao,cap,rfl,hb6⟩
end
section
variable {g:Nat} {m t:ByteArray} {mi ln:Int} {l:List (ByteArray×ByteArray)} {fo:Option Addr} {ak nf:Nat} {bo:Option Addr} {aj nb:Nat} {w:World}
theorem Fh (h:jI w l fo ak nf)(hx:(Tu.one (Tu.vals Tu.FM l)).2=9):
 Calls prog 126 #[.agg #[.pointer (some ⟨g,0,none⟩),.string m,.string t,.int .i64 mi,.slice fo nf ak,.int .i64 ln,.slice bo nb aj]] w fun e w'=>jU w (Tu.said 400 []) e w':=by
 have bQ:=(Below.refl _ w).alloc (Nat.le_refl _) (.cells #[.pointer (some ⟨g,0,none⟩),.string m,.string t,.int .i64 mi,.slice fo nf ak,.int .i64 ln,.slice bo nb aj] 123);have jr:=H9 bQ;obtain⟨x0,x1,x2,x3,x4,x5,x6⟩:=ny (g:=g) (m:=m) (t:=t) (mi:=mi) (ln:=ln) (fo:=fo) (ak:=ak) (nf:=nf) (bo:=bo) (aj:=aj) (nb:=nb) (w:=w) (Below.refl _ _);have HN:=H9 (kQ (g:=g) (m:=m) (t:=t) (mi:=mi) (ln:=ln) (bo:=bo) (aj:=aj) (nb:=nb) Tu.UN (by decide) (h.stay bQ) (v:=(Tu.one (Tu.vals Tu.FM l)).1) (by rw[Tu.yC,<-hx]));unfold Tu.UN at HN;clear h bQ hx;go_enter func126,ntmps126;go_wp2_with fail
 refine HN.o.mono ?_;rintro e w2 hG;obtain⟨HG,ao,cap,n,he⟩:=hG.ends jr.o;unfold aX at he;subst he;clear hG;go_wp2;exact⟨rfl,HG.o⟩
theorem Ip (h:jI w l fo ak nf)(hx:(Tu.one (Tu.vals Tu.FM l)).2≠9):
 (Tu.xu (Tu.one (Tu.vals Tu.FM l)).1=false->Calls prog 126 #[.agg #[.pointer (some ⟨g,0,none⟩),.string m,.string t,.int .i64 mi,.slice fo nf ak,.int .i64 ln,.slice bo nb aj]] w fun e w'=>jU w (Tu.said 415 []) e w') ∧
 (Tu.xu (Tu.one (Tu.vals Tu.FM l)).1=true->Calls prog 126 #[.agg #[.pointer (some ⟨g,0,none⟩),.string m,.string t,.int .i64 mi,.slice fo nf ak,.int .i64 ln,.slice bo nb aj]] w fun e w'=>e=.returned (.tuple #[])∧Below w.heap.size w w'):=by
 have bQ:=(Below.refl _ w).alloc (Nat.le_refl _) (.cells #[.pointer (some ⟨g,0,none⟩),.string m,.string t,.int .i64 mi,.slice fo nf ak,.int .i64 ln,.slice bo nb aj] 123);have jr:=H9 bQ;obtain⟨x0,x1,x2,x3,x4,x5,x6⟩:=ny (g:=g) (m:=m) (t:=t) (mi:=mi) (ln:=ln) (fo:=fo) (ak:=ak) (nf:=nf) (bo:=bo) (aj:=aj) (nb:=nb) (w:=w) (Below.refl _ _);have hz:=h.val Tu.FM;generalize hv:Tu.one (Tu.vals Tu.FM l)=r at *;obtain⟨v,c⟩:=r;simp only at hz hx;have HT:=H9 (jh (g:=g) (m:=m) (t:=t) (mi:=mi) (ln:=ln) (bo:=bo) (aj:=aj) (nb:=nb) Tu.UN (by decide) (h.stay bQ) (by rw[Tu.yC];exact hv) hx);unfold Tu.UN at HT;have HP:Hid (∀W,Calls prog 168 #[.string ⟨v.toArray⟩] W fun e w'=>nA W (Pm.dI v) e w'):=fun W=>by
  have:=qM ⟨v.toArray⟩ W (by show v.toArray.size<=_;rw[List.size_toArray];omega);rw[show(⟨v.toArray⟩:ByteArray).data.toList=v from by simp] at this;exact this
 have Zd:Hid (∀word ps code,OW (Pm.dI v) word ps code->(Tu.xu v=(word.toList==([97,112,112,108,105,99,97,116,105,111,110,47,111,102,102,115,101,116,43,111,99,116,101,116,45,115,116,114,101,97,109]:List UInt8)))):=fun word ps code hM=>by
  rw[Bool.eq_iff_iff,beq_iff_eq,Lib.toList_data];unfold Tu.xu;cases hm:Pm.dI v with
  | inl c =>
    rw[hm] at hM;obtain⟨h1,h2,h3⟩:=hM;subst h2;constructor
    . intro e;cases e
    . intro e;simp at e
  | inr x =>
    rw[hm] at hM;obtain⟨h1,h2,h3⟩:=hM;simp only[decide_eq_true_eq];rw[h2];rfl
 clear h bQ hv hz;generalize decide (c=0)=cb at *;generalize (⟨v.toArray⟩:ByteArray)=vb at *;generalize Tu.xu v=off at *;generalize Pm.dI v=md at *;refine⟨fun ho=>?_,fun ho=>?_⟩
 . subst ho;go_enter func126,ntmps126;go_wp2_with fail
   refine HT.o.mono ?_;rintro e w1 ⟨rfl,hw1⟩;have HB1:=H9 (then_ jr.o hw1);clear hw1 HT jr x0 x1 x2 x3 x4 x5 x6;go_wp2_with fail
   refine(HP.o w1).mono ?_;rintro e w2 ⟨word,ps,ao,cap,code,rfl,hM,_,hw2⟩;have ho:=(Zd.o _ _ _ hM).symm;have HB2:=H9 (then_ (then_ HB1.o hw2) ((Below.refl _ w2).alloc (Nat.le_refl _) (.cells #[.string word,.slice ao ps.length cap] 172)));clear hM hw2 HP Zd HB1;generalize ps.length=np at *;go_wp2_with fail
   refine(bB 415 415 rfl _).mono ?_;rintro e w9 hG;obtain⟨HG,cB,aL,n9,he⟩:=hG.ends HB2.o;unfold aX at he;subst he;clear hG;go_wp2;exact⟨rfl,HG.o⟩
 . subst ho;go_enter func126,ntmps126;go_wp2_with fail
   refine HT.o.mono ?_;rintro e w1 ⟨rfl,hw1⟩;have HB1:=H9 (then_ jr.o hw1);clear hw1 HT jr x0 x1 x2 x3 x4 x5 x6;go_wp2_with fail
   refine(HP.o w1).mono ?_;rintro e w2 ⟨word,ps,ao,cap,code,rfl,hM,_,hw2⟩;have ho:=(Zd.o _ _ _ hM).symm;have HB2:=H9 (then_ (then_ HB1.o hw2) ((Below.refl _ w2).alloc (Nat.le_refl _) (.cells #[.string word,.slice ao ps.length cap] 172)));clear hM hw2 HP Zd HB1;generalize ps.length=np at *;go_wp2_with fail
   refine(aW 415 none 0 0 _).mono ?_;rintro e w9 ⟨rfl,hw⟩;rw[hw];clear hw;go_wp2;go_end0
   exact⟨rfl,HB2.o⟩
theorem nI (id sz sent x en:Int)(note:ByteArray)(uo:Option Addr)(un bM:Nat)(w:World)(hs0:-1<=sz):
 (0<=sz->x≠sz->Calls prog 128 #[.agg #[.int .i64 id,.int .i64 sz,.string note,.slice uo un bM,.int .i64 sent],.int .i64 x,.int .i64 en] w fun e w'=>jU w (Tu.said 400 []) e w') ∧
 (sz<0->(2000<x∨x<en)->Calls prog 128 #[.agg #[.int .i64 id,.int .i64 sz,.string note,.slice uo un bM,.int .i64 sent],.int .i64 x,.int .i64 en] w fun e w'=>jU w (Tu.said 413 []) e w') ∧
 ((0<=sz∧x=sz)∨(sz<0∧¬(2000<x∨x<en))->Calls prog 128 #[.agg #[.int .i64 id,.int .i64 sz,.string note,.slice uo un bM,.int .i64 sent],.int .i64 x,.int .i64 en] w fun e w'=>e=.returned (.tuple #[])∧Below w.heap.size w w'):=by
 have bQ:=(Below.refl _ w).alloc (Nat.le_refl _) (.cells #[.int .i64 id,.int .i64 sz,.string note,.slice uo un bM,.int .i64 sent] 101);have jr:=H9 bQ;have c1:(w.alloc (.cells #[.int .i64 id,.int .i64 sz,.string note,.slice uo un bM,.int .i64 sent] 101)).cell? ⟨w.heap.size,1,none⟩=some (.int .i64 sz):=World.cell?_alloc_mark w _ _ _ 1;clear bQ;refine⟨fun h0 hne=>?_,fun h0 hbad=>?_,fun hok=>?_⟩
 . have t1:(sz != -1)=true:=by rw[bne_iff_ne];omega
   have t2:(x==sz)=false:=by rw[beq_eq_false_iff_ne];exact hne
   clear hne h0 hs0;go_enter func128,ntmps128;go_wp2_with fail
   refine(bB 400 400 rfl _).mono ?_;rintro e w9 hG;obtain⟨HG,cB,aL,n9,he⟩:=hG.ends jr.o;unfold aX at he;subst he;clear hG;go_wp2;exact⟨rfl,HG.o⟩
 . obtain rfl:sz=-1:=by omega
   clear h0 hs0;by_cases h2:2000<x
   . have t1:decide (x<=2000)=false:=by rw[decide_eq_false_iff_not];omega
     clear hbad h2;go_enter func128,ntmps128;go_wp2_with fail
     refine(bB 413 413 rfl _).mono ?_;rintro e w9 hG;obtain⟨HG,cB,aL,n9,he⟩:=hG.ends jr.o;unfold aX at he;subst he;clear hG;go_wp2;exact⟨rfl,HG.o⟩
   . have t1:decide (x<=2000)=true:=by rw[decide_eq_true_eq];omega
     have t2:decide (x≥en)=false:=by rw[decide_eq_false_iff_not];omega
     clear hbad h2;go_enter func128,ntmps128;go_wp2_with fail
     refine(bB 413 413 rfl _).mono ?_;rintro e w9 hG;obtain⟨HG,cB,aL,n9,he⟩:=hG.ends jr.o;unfold aX at he;subst he;clear hG;go_wp2;exact⟨rfl,HG.o⟩
 . rcases hok with ⟨h0,rfl⟩ | ⟨h0,h1⟩
   . have t1:(x != -1)=true:=by rw[bne_iff_ne];omega
     have t2:(x==x)=true:=by simp
     clear h0 hs0;go_enter func128,ntmps128;go_wp2_with fail
     refine(aW 400 none 0 0 _).mono ?_;rintro e w9 ⟨rfl,hw⟩;rw[hw];clear hw;go_wp2;first | go_end0 | refine bodyPost_ret (results_none rfl _ _ _) rfl ?_
     exact⟨rfl,jr.o⟩
   . obtain rfl:sz=-1:=by omega
     have t1:decide (x<=2000)=true:=by rw[decide_eq_true_eq];omega
     have t2:decide (x≥en)=true:=by rw[decide_eq_true_eq];omega
     clear h0 hs0 h1;go_enter func128,ntmps128;go_wp2_with fail
     refine(aW 413 none 0 0 _).mono ?_;rintro e w9 ⟨rfl,hw⟩;rw[hw];clear hw;go_wp2;go_end0
     exact⟨rfl,jr.o⟩
end
section
variable {g:Nat} {m t:ByteArray} {mi ln:Int} {l:List (ByteArray×ByteArray)} {fo:Option Addr} {ak nf:Nat} {bo:Option Addr} {aj nb:Nat} {w w0:World} {S:Nat->Prop} {s:Sr.Sh}
theorem JY (h:aN w S g s)(ob oc:Obj):bP aN S w g [.cells #[.pointer (some ⟨g,0,none⟩),.string m,.string t,.int .i64 mi,.slice fo nf ak,.int .i64 ln,.slice bo nb aj] 123 (0,0),ob,oc] s (fun k=>S k∧k<w.heap.size) (((w.alloc (.cells #[.pointer (some ⟨g,0,none⟩),.string m,.string t,.int .i64 mi,.slice fo nf ak,.int .i64 ln,.slice bo nb aj] 123)).alloc ob).alloc oc):=by
 have hz:((w.alloc (.cells #[.pointer (some ⟨g,0,none⟩),.string m,.string t,.int .i64 mi,.slice fo nf ak,.int .i64 ln,.slice bo nb aj] 123)).alloc ob).heap.size=w.heap.size+2:=by rw[World.size_alloc,World.size_alloc]
 exact(JQ h ob).box aQ hz (fun k e=>by rw[hz];have:=e.2;omega) _
theorem bP.up {bs:List Obj}{S':Nat->Prop}{s':Sr.Sh}{W:World}{u:Sp.Up}{uo:Option Addr}{un bM:Nat}(h:bP aN S w g (.cells #[.pointer (some ⟨g,0,none⟩),.string m,.string t,.int .i64 mi,.slice fo nf ak,.int .i64 ln,.slice bo nb aj] 123 (0,0)::.cells #[.int .i64 u.id,.int .i64 u.size,.string u.note,.slice uo un bM,.int .i64 u.sent] 101 (0,0)::bs) s' S' W):W.cell? ⟨w.heap.size+1,0,none⟩=some (.int .i64 u.id)∧W.cell? ⟨w.heap.size+1,1,none⟩=some (.int .i64 u.size)∧W.cell? ⟨w.heap.size+1,2,none⟩=some (.string u.note)∧W.cell? ⟨w.heap.size+1,3,none⟩=some (.slice uo un bM)∧W.cell? ⟨w.heap.size+1,4,none⟩=some (.int .i64 u.sent):=by
 have r:=h.row 1 rfl;exact⟨cell_of_row W _ 0 _ _ _ r,cell_of_row W _ 1 _ _ _ r,cell_of_row W _ 2 _ _ _ r,cell_of_row W _ 3 _ _ _ r,cell_of_row W _ 4 _ _ _ r⟩
theorem vO (h:aN w S g s)(ok:Sr.Ok s)(u:Sp.Up)(uo:Option Addr)(un bM:Nat):
 Calls prog 92 #[.agg #[.pointer (some ⟨g,0,none⟩),.string m,.string t,.int .i64 mi,.slice fo nf ak,.int .i64 ln,.slice bo nb aj],.agg #[.int .i64 u.id,.int .i64 u.size,.string u.note,.slice uo un bM,.int .i64 u.sent]] w fun e w'=>fK S w g (Sr.sync (Sr.drop s u.id).1,Tu.said 204 []) e w':=by
 have T3:bP aN S w g [.cells #[.pointer (some ⟨g,0,none⟩),.string m,.string t,.int .i64 mi,.slice fo nf ak,.int .i64 ln,.slice bo nb aj] 123 (0,0),.cells #[.int .i64 u.id,.int .i64 u.size,.string u.note,.slice uo un bM,.int .i64 u.sent] 101 (0,0),.cells #[.int .i64 0,.slice none 0 0,.slice none 0 0] 88 (0,0)] s (fun k=>S k∧k<w.heap.size) (((w.alloc (.cells #[.pointer (some ⟨g,0,none⟩),.string m,.string t,.int .i64 mi,.slice fo nf ak,.int .i64 ln,.slice bo nb aj] 123)).alloc (.cells #[.int .i64 u.id,.int .i64 u.size,.string u.note,.slice uo un bM,.int .i64 u.sent] 101)).alloc (.cells #[.int .i64 0,.slice none 0 0,.slice none 0 0] 88)):=JY h _ _;have HC:Hid (∀W s' S',bP aN S w g [.cells #[.pointer (some ⟨g,0,none⟩),.string m,.string t,.int .i64 mi,.slice fo nf ak,.int .i64 ln,.slice bo nb aj] 123 (0,0),.cells #[.int .i64 u.id,.int .i64 u.size,.string u.note,.slice uo un bM,.int .i64 u.sent] 101 (0,0),.cells #[.int .i64 0,.slice none 0 0,.slice none 0 0] 88 (0,0)] s' S' W->W.cell? ⟨w.heap.size,0,none⟩=some (.pointer (some ⟨g,0,none⟩))∧W.cell? ⟨w.heap.size,1,none⟩=some (.string m)∧W.cell? ⟨w.heap.size,2,none⟩=some (.string t)∧W.cell? ⟨w.heap.size,3,none⟩=some (.int .i64 mi)∧W.cell? ⟨w.heap.size,4,none⟩=some (.slice fo nf ak)∧W.cell? ⟨w.heap.size,5,none⟩=some (.int .i64 ln)∧W.cell? ⟨w.heap.size,6,none⟩=some (.slice bo nb aj)):=fun W s' S' hW=>hW.ex;obtain⟨x0,x1,x2,x3,x4,x5,x6⟩:=HC.o _ _ _ T3;obtain⟨v0,v1,v2,v3,v4⟩:=T3.up;have H3:=H9 T3;have Vm:=H9 (qQ T3.sh ok u.id);have HD:Hid ((Sr.sync (Sr.drop s u.id).1,Tu.said 204 [])=(Sr.sync (Sr.drop s u.id).1,Tu.said 204 [])):=by unfold Hid;rfl
 obtain⟨R,hR⟩:∃R,R=(Sr.sync (Sr.drop s u.id).1,Tu.said 204 []):=⟨_,rfl⟩;rw[<-hR];clear HD;have HD:=H9 hR;clear T3 ok h hR;go_enter func92,ntmps92;go_wp2_with fail
 refine Vm.o.mono ?_;rintro e w4 ⟨rfl,XZ,wP⟩;have H4:=H9 (H3.o.did XZ wP);clear XZ wP Vm H3 v0 v1 v2 v3 v4 x0 x1 x2 x3 x4 x5 x6;generalize Sr.drop s u.id=ra at *;obtain⟨sa,ca⟩:=ra;simp only at HD H4 ⊢;obtain⟨x0,x1,x2,x3,x4,x5,x6⟩:=HC.o _ _ _ H4.o;have CY:=H9 (jk H4.o.sh);go_wp2_with fail
 refine CY.o.mono ?_;rintro e w5 ⟨rfl,oM,nD⟩;have H5:=H9 (H4.o.turned oM nD);have uG:=H9 (dD 204 204 rfl [] none 0 0 w5 (cu.nil w5) rfl (by decide));clear oM nD CY H4 x0 x1 x2 x3 x4 x5 x6;go_wp2_with fail
 refine uG.o.mono ?_;rintro e w9 ⟨cB,aL,n9,rfl,eU,dH,iX⟩;obtain⟨⟨z0,z1,z2,y0,y1,y2⟩,HE⟩:=H5.o.ends aQ (i:=2) rfl (b:=w.heap.size+2) (by first | rfl | omega) (st:=204) (fV:=204) rfl eU (Nat.le_trans (Nat.le_add_right _ _) H5.o.sz) dH iX;clear eU dH iX;go_wp2;generalize (((w9.setCell ⟨w.heap.size+2,0,none⟩ (.int .i64 204)).setCell ⟨w.heap.size+2,1,none⟩ (.slice cB n9 aL)).setCell ⟨w.heap.size+2,2,none⟩ (.slice none 0 0))=wf at *;obtain⟨q0,q1,q2,q3⟩:=HE.o;refine bodyPost_ret (v:=.agg #[.int .i64 204,.slice cB n9 aL,.slice none 0 0]) (by simp[results,results92,go_sem,q0,q1,q2]) rfl ?_;rw[HD.o];exact fK.of q3
end
section
variable {g:Nat} {m t:ByteArray} {mi ln:Int} {l:List (ByteArray×ByteArray)} {fo:Option Addr} {ak nf:Nat} {bo:Option Addr} {aj nb:Nat} {w w0:World} {S:Nat->Prop} {s:Sr.Sh}
theorem qA (name:ByteArray)(hN:name.size<=2000)(h:jI w l fo ak nf):
 ((Tu.bT (Tu.one (Tu.vals name l))).2=false∧Hid (∀W,Below w.heap.size w W->Calls prog 127 #[.agg #[.pointer (some ⟨g,0,none⟩),.string m,.string t,.int .i64 mi,.slice fo nf ak,.int .i64 ln,.slice bo nb aj],.string name] W fun e w'=>jU W (Tu.said 400 []) e w')) ∨
 (Tu.bT (Tu.one (Tu.vals name l))=(-1,true)∧Hid (∀W,Below w.heap.size w W->Calls prog 127 #[.agg #[.pointer (some ⟨g,0,none⟩),.string m,.string t,.int .i64 mi,.slice fo nf ak,.int .i64 ln,.slice bo nb aj],.string name] W fun e w'=>e=.returned (.tuple #[.int .i64 0,.bool false])∧Below W.heap.size W w')) ∨
 (∃x:Int,0<=x∧x<1000000000∧Tu.bT (Tu.one (Tu.vals name l))=(x,true)∧Hid (∀W,Below w.heap.size w W->Calls prog 127 #[.agg #[.pointer (some ⟨g,0,none⟩),.string m,.string t,.int .i64 mi,.slice fo nf ak,.int .i64 ln,.slice bo nb aj],.string name] W fun e w'=>e=.returned (.tuple #[.int .i64 x,.bool true])∧Below W.heap.size W w')):=by
 by_cases hc:(Tu.one (Tu.vals name l)).2=10
 . exact Or.inr (Or.inl ⟨Tu.yI hc,fun W hW=>sD name hN (h.stay hW) hc⟩)
 . cases hb:(Tu.bT (Tu.one (Tu.vals name l))).2 with
   | false=>exact Or.inl ⟨rfl,fun W hW=>yD name hN (h.stay hW) hb⟩
   | true =>
     have he:Tu.bT (Tu.one (Tu.vals name l))=((Tu.bT (Tu.one (Tu.vals name l))).1,true):=by rw[<-hb]
     refine Or.inr (Or.inr ⟨_,Tu.A8 hc he,?_,he,fun W hW=>vB name hN (h.stay hW) hc he⟩);generalize Tu.one (Tu.vals name l)=r at *;unfold Tu.bT at hb ⊢;rw[if_neg hc] at hb ⊢;rw[Bool.and_eq_true] at hb;exact(Ch.jW hb.1).2
theorem vP (p:oN w0 w S)(h:aN w S g s)(ok:Sr.Ok s)(hF:jI w l fo ak nf)(body:List UInt8)(hb:body.length=nb)(hB:aU w bo aj body)(hnb:nb<=100000)(u:Sp.Up)(uo:Option Addr)(un bM:Nat)(hun:u.bytes.length=un)(Nh:un<=2000)(hs0:-1<=u.size):
 Calls prog 91 #[.agg #[.pointer (some ⟨g,0,none⟩),.string m,.string t,.int .i64 mi,.slice fo nf ak,.int .i64 ln,.slice bo nb aj],.agg #[.int .i64 u.id,.int .i64 u.size,.string u.note,.slice uo un bM,.int .i64 u.sent]] w fun e w'=>fK S w g (Tu.patch s u l body) e w':=by
 have T3:bP aN S w g [.cells #[.pointer (some ⟨g,0,none⟩),.string m,.string t,.int .i64 mi,.slice fo nf ak,.int .i64 ln,.slice bo nb aj] 123 (0,0),.cells #[.int .i64 u.id,.int .i64 u.size,.string u.note,.slice uo un bM,.int .i64 u.sent] 101 (0,0),.cells #[.int .i64 0,.slice none 0 0,.slice none 0 0] 88 (0,0)] s (fun k=>S k∧k<w.heap.size) (((w.alloc (.cells #[.pointer (some ⟨g,0,none⟩),.string m,.string t,.int .i64 mi,.slice fo nf ak,.int .i64 ln,.slice bo nb aj] 123)).alloc (.cells #[.int .i64 u.id,.int .i64 u.size,.string u.note,.slice uo un bM,.int .i64 u.sent] 101)).alloc (.cells #[.int .i64 0,.slice none 0 0,.slice none 0 0] 88)):=JY h _ _;have HB3:Hid (Below w.heap.size w (((w.alloc (.cells #[.pointer (some ⟨g,0,none⟩),.string m,.string t,.int .i64 mi,.slice fo nf ak,.int .i64 ln,.slice bo nb aj] 123)).alloc (.cells #[.int .i64 u.id,.int .i64 u.size,.string u.note,.slice uo un bM,.int .i64 u.sent] 101)).alloc (.cells #[.int .i64 0,.slice none 0 0,.slice none 0 0] 88))):=then_ (then_ ((Below.refl _ w).alloc (Nat.le_refl _) _) ((Below.refl _ _).alloc (Nat.le_refl _) _)) ((Below.refl _ _).alloc (Nat.le_refl _) _);have HC:Hid (∀W s' S',bP aN S w g [.cells #[.pointer (some ⟨g,0,none⟩),.string m,.string t,.int .i64 mi,.slice fo nf ak,.int .i64 ln,.slice bo nb aj] 123 (0,0),.cells #[.int .i64 u.id,.int .i64 u.size,.string u.note,.slice uo un bM,.int .i64 u.sent] 101 (0,0),.cells #[.int .i64 0,.slice none 0 0,.slice none 0 0] 88 (0,0)] s' S' W->W.cell? ⟨w.heap.size,0,none⟩=some (.pointer (some ⟨g,0,none⟩))∧W.cell? ⟨w.heap.size,1,none⟩=some (.string m)∧W.cell? ⟨w.heap.size,2,none⟩=some (.string t)∧W.cell? ⟨w.heap.size,3,none⟩=some (.int .i64 mi)∧W.cell? ⟨w.heap.size,4,none⟩=some (.slice fo nf ak)∧W.cell? ⟨w.heap.size,5,none⟩=some (.int .i64 ln)∧W.cell? ⟨w.heap.size,6,none⟩=some (.slice bo nb aj)):=fun W s' S' hW=>hW.ex;have HU:Hid (∀W s' S',bP aN S w g [.cells #[.pointer (some ⟨g,0,none⟩),.string m,.string t,.int .i64 mi,.slice fo nf ak,.int .i64 ln,.slice bo nb aj] 123 (0,0),.cells #[.int .i64 u.id,.int .i64 u.size,.string u.note,.slice uo un bM,.int .i64 u.sent] 101 (0,0),.cells #[.int .i64 0,.slice none 0 0,.slice none 0 0] 88 (0,0)] s' S' W->W.cell? ⟨w.heap.size+1,0,none⟩=some (.int .i64 u.id)∧W.cell? ⟨w.heap.size+1,1,none⟩=some (.int .i64 u.size)∧W.cell? ⟨w.heap.size+1,2,none⟩=some (.string u.note)∧W.cell? ⟨w.heap.size+1,3,none⟩=some (.slice uo un bM)∧W.cell? ⟨w.heap.size+1,4,none⟩=some (.int .i64 u.sent)):=fun W s' S' hW=>hW.up;have H3:=H9 T3;obtain⟨x0,x1,x2,x3,x4,x5,x6⟩:=HC.o _ _ _ H3.o;obtain⟨v0,v1,v2,v3,v4⟩:=HU.o _ _ _ H3.o;have HF:=H9 hF;have lg:=H9 ok;have Bn:=H9 p
 have yJ:Hid (∀W,Below w.heap.size w W->aU W bo aj body):=fun W hW=>hB.stay hW;have Nf:=H9 hb;have hN1:=qA (g:=g) (m:=m) (t:=t) (mi:=mi) (ln:=ln) (bo:=bo) (aj:=aj) (nb:=nb) Tu.nK (by decide) hF;have RP:=qA (g:=g) (m:=m) (t:=t) (mi:=mi) (ln:=ln) (bo:=bo) (aj:=aj) (nb:=nb) Tu.xk (by decide) hF;rw[Tu.OU] at hN1;rw[Tu.oF] at RP;unfold Tu.nK at hN1;unfold Tu.xk at RP;have Bc:Hid (∀x W,0<=u.size->x≠u.size->Calls prog 128 #[.agg #[.int .i64 u.id,.int .i64 u.size,.string u.note,.slice uo un bM,.int .i64 u.sent],.int .i64 x,.int .i64 ((un:Int)+nb)] W fun e w'=>jU W (Tu.said 400 []) e w'):=fun x W=>(nI u.id u.size u.sent x ((un:Int)+nb) u.note uo un bM W hs0).1;have HS2:Hid (∀x W,u.size<0->(2000<x∨x<(un:Int)+nb)->Calls prog 128 #[.agg #[.int .i64 u.id,.int .i64 u.size,.string u.note,.slice uo un bM,.int .i64 u.sent],.int .i64 x,.int .i64 ((un:Int)+nb)] W fun e w'=>jU W (Tu.said 413 []) e w'):=fun x W=>(nI u.id u.size u.sent x ((un:Int)+nb) u.note uo un bM W hs0).2.1;have BM:Hid (∀x W,(0<=u.size∧x=u.size)∨(u.size<0∧¬(2000<x∨x<(un:Int)+nb))->Calls prog 128 #[.agg #[.int .i64 u.id,.int .i64 u.size,.string u.note,.slice uo un bM,.int .i64 u.sent],.int .i64 x,.int .i64 ((un:Int)+nb)] W fun e w'=>e=.returned (.tuple #[])∧Below W.heap.size W w'):=fun x W=>(nI u.id u.size u.sent x ((un:Int)+nb) u.note uo un bM W hs0).2.2;clear T3 hF ok p h hB;obtain⟨R,hR⟩:∃R,R=Tu.patch s u l body:=⟨_,rfl⟩;rw[<-hR];unfold Tu.patch at hR;rw[hun,hb] at hR;have HD:=H9 hR;clear hR hun hb;go_enter func91,ntmps91;by_cases RO:(Tu.one (Tu.vals Tu.FM l)).2=9
 . rw[if_pos RO] at HD;have HM:=H9 (Fh (g:=g) (m:=m) (t:=t) (mi:=mi) (ln:=ln) (bo:=bo) (aj:=aj) (nb:=nb) (HF.o.stay HB3.o) RO);clear RO hN1 RP;go_wp2_with fail
   refine(HM.o).mono ?_;rintro e w9 hG;obtain⟨HE,cB,aL,n9,he⟩:=H3.o.fell hG;unfold aX at he;subst he;clear hG;go_wp2;exact⟨rfl,by rw[HD.o];exact HE.o⟩
 rw[if_neg RO] at HD;obtain⟨hm1,hm2⟩:=Ip (g:=g) (m:=m) (t:=t) (mi:=mi) (ln:=ln) (bo:=bo) (aj:=aj) (nb:=nb) (HF.o.stay HB3.o) RO;clear RO;cases hoff:Tu.xu (Tu.one (Tu.vals Tu.FM l)).1 with
 | false =>
   rw[if_pos hoff] at HD;have HM:=H9 (hm1 hoff);clear hm1 hm2 hoff hN1 RP;go_wp2_with fail
   refine(HM.o).mono ?_;rintro e w9 hG;obtain⟨HE,cB,aL,n9,he⟩:=H3.o.fell hG;unfold aX at he;subst he;clear hG;go_wp2;exact⟨rfl,by rw[HD.o];exact HE.o⟩
 | true =>
 rw[if_neg (by rw[hoff];simp)] at HD;have HM:=H9 (hm2 hoff);clear hm1 hm2 hoff;go_wp2_with fail
 refine(HM.o).mono ?_;rintro e w4 ⟨rfl,hw⟩;have ig:=H9 (then_ HB3.o hw);have H4:=H9 (H3.o.stay aQ hw);clear hw H3 HB3 x0 x1 x2 x3 x4 x5 x6 v0 v1 v2 v3 v4;obtain⟨x0,x1,x2,x3,x4,x5,x6⟩:=HC.o _ _ _ H4.o;obtain⟨v0,v1,v2,v3,v4⟩:=HU.o _ _ _ H4.o;clear HM;rcases hN1 with ⟨hx,HN⟩ | ⟨hx,HN⟩ | ⟨x,hx0,hx1,hx,HN⟩
 . rw[if_pos (Or.inl hx)] at HD;clear hx RP;go_wp2_with fail
   refine(HN.o _ ig.o).mono ?_;rintro e w9 hG;obtain⟨HE,cB,aL,n9,he⟩:=H4.o.fell hG;unfold aX at he;subst he;clear hG;go_wp2;exact⟨rfl,by rw[HD.o];exact HE.o⟩
 . rw[if_pos (Or.inr (by rw[hx];decide))] at HD;clear hx RP;go_wp2_with fail
   refine(HN.o _ ig.o).mono ?_;rintro e w5 ⟨rfl,hw⟩;have kU:=H9 (then_ ig.o hw);have H5:=H9 (H4.o.stay aQ hw);clear hw H4 ig x0 x1 x2 x3 x4 x5 x6 v0 v1 v2 v3 v4;obtain⟨x0,x1,x2,x3,x4,x5,x6⟩:=HC.o _ _ _ H5.o;obtain⟨v0,v1,v2,v3,v4⟩:=HU.o _ _ _ H5.o;go_wp2_with fail
   refine(bB 400 400 rfl _).mono ?_;rintro e w9 hG;obtain⟨HE,cB,aL,n9,he⟩:=H5.o.fell hG;unfold aX at he;subst he;clear hG;go_wp2;exact⟨rfl,by rw[HD.o];exact HE.o⟩
 rw[if_neg (by rw[hx];exact fun e=>e.elim (fun e=>by cases e) (fun e=>absurd e (by show ¬x<0;omega)))] at HD;rw[hx] at HD;simp only at HD;clear hx;go_wp2_with fail
 refine(HN.o _ ig.o).mono ?_;rintro e w5 ⟨rfl,hw⟩;have kU:=H9 (then_ ig.o hw);have H5:=H9 (H4.o.stay aQ hw);clear hw H4 ig x0 x1 x2 x3 x4 x5 x6 v0 v1 v2 v3 v4;obtain⟨x0,x1,x2,x3,x4,x5,x6⟩:=HC.o _ _ _ H5.o;obtain⟨v0,v1,v2,v3,v4⟩:=HU.o _ _ _ H5.o;clear HN;go_wp2_with fail
 refine(aW 400 none 0 0 _).mono ?_;rintro e wq ⟨rfl,hw⟩;rw[hw];clear hw;by_cases hxu:x=(un:Int)
 case neg =>
  rw[if_pos hxu] at HD;have tx:(x==(un:Int))=false:=by rw[beq_eq_false_iff_ne];exact hxu
  clear hxu RP;go_wp2_with fail
  refine(bB 409 409 rfl _).mono ?_;rintro e w9 hG;obtain⟨HE,cB,aL,n9,he⟩:=H5.o.fell hG;unfold aX at he;subst he;clear hG;go_wp2;exact⟨rfl,by rw[HD.o];exact HE.o⟩
 rw[if_neg (fun e=>e hxu)] at HD;subst hxu;clear hx0 hx1;go_wp2_with fail
 refine(aW 409 none 0 0 _).mono ?_;rintro e wq ⟨rfl,hw⟩;rw[hw];clear hw;rcases RP with ⟨hy,HN⟩ | ⟨hy,HN⟩ | ⟨y,hy0,hy1,hy,HN⟩
 . rw[if_pos (Or.inl hy)] at HD;clear hy;go_wp2_with fail
   refine(HN.o _ kU.o).mono ?_;rintro e w9 hG;obtain⟨HE,cB,aL,n9,he⟩:=H5.o.fell hG;unfold aX at he;subst he;clear hG;go_wp2;exact⟨rfl,by rw[HD.o];exact HE.o⟩
 . have hte:Tu.tell u l<->(0<=(-1:Int)∧u.size<0):=by unfold Tu.tell;rw[hy]
   rw[hy] at HD;simp only at HD;rw[if_neg (fun e=>e.elim (fun e=>by cases e) (fun e=>by have:=e.1;omega)),if_neg (fun e=>by have:=(hte.1 e.1).1;omega)] at HD;have WG:=H9 hte;clear hy hte;go_wp2_with fail
   refine(HN.o _ kU.o).mono ?_;rintro e w6 ⟨rfl,hw⟩;have qj:=H9 (then_ kU.o hw);have H6:=H9 (H5.o.stay aQ hw);clear hw H5 kU x0 x1 x2 x3 x4 x5 x6 v0 v1 v2 v3 v4;obtain⟨x0,x1,x2,x3,x4,x5,x6⟩:=HC.o _ _ _ H6.o;obtain⟨v0,v1,v2,v3,v4⟩:=HU.o _ _ _ H6.o;obtain⟨Ud,y7⟩:∃b,(decide ((0:Int)<=(nb:Int)+60)&&decide ((nb:Int)+60<=100000-(s.log.length:Int)))=b:=⟨_,rfl⟩;have eR:Ud=false<->100000<s.log.length+(nb+60):=by
    rw[<-y7,Bool.and_eq_false_iff,decide_eq_false_iff_not,decide_eq_false_iff_not];omega
   have Iq:=H9 (nH H6.o.sh ((nb:Int)+60));rw[y7] at Iq;clear y7;go_wp2_with fail
   refine Iq.o.mono ?_;rintro e wq ⟨rfl,hw⟩;rw[hw];clear hw;clear Iq;cases Ud with
   | false =>
     rw[if_pos (eR.1 rfl)] at HD;go_wp2_with fail
     refine(bB 507 507 rfl _).mono ?_;rintro e w9 hG;obtain⟨HE,cB,aL,n9,he⟩:=H6.o.fell hG;unfold aX at he;subst he;clear hG;go_wp2;exact⟨rfl,by rw[HD.o];exact HE.o⟩
   | true =>
     rw[if_neg (fun e=>by have:=eR.2 e;cases this)] at HD;clear eR;go_wp2_with fail
     refine(aW 507 none 0 0 _).mono ?_;rintro e wq ⟨rfl,hw⟩;rw[hw];clear hw;have FU:=H9 (jZ H6.o.sh lg.o u.id (un:Int) bo nb aj body (yJ.o _ qj.o) Nf.o (by omega));have CZ:Hid ((Sr.append s u.id (un:Int) body).2≠0->(Sr.append s u.id (un:Int) body).1=s):=fun e=>by unfold Sr.append at e ⊢;exact Tu.jc e
     have WH:Hid (Sr.Ok (Sr.append s u.id (un:Int) body).1):=lg.o.append _ _ _;go_wp2_with fail
     refine FU.o.mono ?_;rintro e X0 ⟨rfl,hat,hT⟩;have y8:=H9 (H6.o.did hat hT);clear hat hT FU H6 qj x0 x1 x2 x3 x4 x5 x6 v0 v1 v2 v3 v4;generalize Sr.append s u.id (un:Int) body=ra at *;obtain⟨sa,ca⟩:=ra;simp only at HD CZ y8 WH ⊢;obtain⟨x0,x1,x2,x3,x4,x5,x6⟩:=HC.o _ _ _ y8.o;obtain⟨v0,v1,v2,v3,v4⟩:=HU.o _ _ _ y8.o;by_cases hca:ca=0
     . subst hca;rw[if_neg (by simp)] at HD;clear CZ;go_wp2_with fail
       refine(jV _).mono ?_;rintro e wq ⟨rfl,hw⟩;rw[hw];clear hw;rw[if_neg (fun e=>by have:=(WG.o.1 e).1;omega)] at HD;have CY:=H9 (jk y8.o.sh);go_wp2_with fail
       refine CY.o.mono ?_;rintro e X3 ⟨rfl,oJ,kD⟩;have Qc:=H9 (y8.o.turned oJ kD);have FW:=H9 (jg Tu.nK (un+nb) ((un:Int)+nb) (by omega) (by omega) X3 (Qc.o.pow Bn.o));unfold Tu.nK at FW;generalize Tu.dec (un+nb)=db at *;clear oJ kD CY y8 x0 x1 x2 x3 x4 x5 x6 v0 v1 v2 v3 v4;go_wp2_with fail
       refine FW.o.mono ?_;rintro e Qd ⟨rfl,hw⟩;have Qe:=H9 ((Qc.o.stay aQ hw).stay aQ ((Below.refl _ Qd).alloc (Nat.le_refl _) (.cells #[.string Tu.nK,.string db] 111)));have uG:=H9 (dD 204 204 rfl [(Tu.nK,db)] (some ⟨Qd.heap.size,0,none⟩) 1 1 _ (cu.made Qd #[.string Tu.nK,.string db] 1 111 (0,0)) rfl (by decide));unfold Tu.nK at uG Qe;clear hw FW Qc;go_wp2_with fail
       refine uG.o.mono ?_;rintro e w9 ⟨cB,aL,n9,rfl,eU,dH,iX⟩;obtain⟨⟨z0,z1,z2,y0,y1,y2⟩,HE⟩:=Qe.o.ends aQ (i:=2) rfl (b:=w.heap.size+2) (by first | rfl | omega) (st:=204) (fV:=204) rfl eU (Nat.le_trans (Nat.le_add_right _ _) Qe.o.sz) dH iX;clear eU dH iX;go_wp2;generalize (((w9.setCell ⟨w.heap.size+2,0,none⟩ (.int .i64 204)).setCell ⟨w.heap.size+2,1,none⟩ (.slice cB n9 aL)).setCell ⟨w.heap.size+2,2,none⟩ (.slice none 0 0))=wf at *;obtain⟨q0,q1,q2,q3⟩:=HE.o;refine bodyPost_ret (v:=.agg #[.int .i64 204,.slice cB n9 aL,.slice none 0 0]) (by simp[results,results91,go_sem,q0,q1,q2]) rfl ?_;rw[HD.o];exact fK.of q3
     . rw[if_pos hca] at HD;have hsa:=CZ.o hca;subst hsa;have VH:=H9 (lI ca hca X0);clear hca CZ;go_wp2_with fail
       refine(VH.o).mono ?_;rintro e w9 hG;obtain⟨HE,cB,aL,n9,he⟩:=y8.o.fell hG;unfold aX at he;subst he;clear hG;go_wp2;exact⟨rfl,by rw[HD.o];exact HE.o⟩
 . have hte:Tu.tell u l<->(0<=y∧u.size<0):=by unfold Tu.tell;rw[hy]
   rw[hy] at HD;simp only at HD;have WG:=H9 hte;clear hy hte;go_wp2_with fail
   refine(HN.o _ kU.o).mono ?_;rintro e w6 ⟨rfl,hw⟩;have qj:=H9 (then_ kU.o hw);have H6:=H9 (H5.o.stay aQ hw);clear hw H5 kU x0 x1 x2 x3 x4 x5 x6 v0 v1 v2 v3 v4;obtain⟨x0,x1,x2,x3,x4,x5,x6⟩:=HC.o _ _ _ H6.o;obtain⟨v0,v1,v2,v3,v4⟩:=HU.o _ _ _ H6.o;by_cases hsz:u.size<0
   . rw[if_neg (fun e=>e.elim (fun e=>by cases e) (fun e=>by have:=e.2.1;omega))] at HD;by_cases hbad:2000<y∨y<(un:Int)+nb
     . rw[if_pos ⟨WG.o.2 ⟨hy0,hsz⟩,by simpa using hbad⟩] at HD;have HQ:=H9 (HS2.o y w6 hsz hbad);go_wp2_with fail
       refine(HQ.o).mono ?_;rintro e w9 hG;obtain⟨HE,cB,aL,n9,he⟩:=H6.o.fell hG;unfold aX at he;subst he;clear hG;go_wp2;exact⟨rfl,by rw[HD.o];exact HE.o⟩
     . rw[if_neg (fun e=>hbad (by simpa using e.2))] at HD;have HQ:=H9 (BM.o y w6 (Or.inr ⟨hsz,hbad⟩));clear hbad;go_wp2_with fail
       refine(HQ.o).mono ?_;rintro e w7 ⟨rfl,hw⟩;have Fj:=H9 (then_ qj.o hw);have H7:=H9 (H6.o.stay aQ hw);clear hw H6 qj x0 x1 x2 x3 x4 x5 x6 v0 v1 v2 v3 v4;obtain⟨x0,x1,x2,x3,x4,x5,x6⟩:=HC.o _ _ _ H7.o;obtain⟨v0,v1,v2,v3,v4⟩:=HU.o _ _ _ H7.o;clear HQ;obtain⟨Ud,y7⟩:∃b,(decide ((0:Int)<=(nb:Int)+60)&&decide ((nb:Int)+60<=100000-(s.log.length:Int)))=b:=⟨_,rfl⟩;have eR:Ud=false<->100000<s.log.length+(nb+60):=by
        rw[<-y7,Bool.and_eq_false_iff,decide_eq_false_iff_not,decide_eq_false_iff_not];omega
       have Iq:=H9 (nH H7.o.sh ((nb:Int)+60));rw[y7] at Iq;clear y7;go_wp2_with fail
       refine Iq.o.mono ?_;rintro e wq ⟨rfl,hw⟩;rw[hw];clear hw;clear Iq;cases Ud with
       | false =>
         rw[if_pos (eR.1 rfl)] at HD;go_wp2_with fail
         refine(bB 507 507 rfl _).mono ?_;rintro e w9 hG;obtain⟨HE,cB,aL,n9,he⟩:=H7.o.fell hG;unfold aX at he;subst he;clear hG;go_wp2;exact⟨rfl,by rw[HD.o];exact HE.o⟩
       | true =>
         rw[if_neg (fun e=>by have:=eR.2 e;cases this)] at HD;clear eR;go_wp2_with fail
         refine(aW 507 none 0 0 _).mono ?_;rintro e wq ⟨rfl,hw⟩;rw[hw];clear hw;have FU:=H9 (jZ H7.o.sh lg.o u.id (un:Int) bo nb aj body (yJ.o _ Fj.o) Nf.o (by omega));have CZ:Hid ((Sr.append s u.id (un:Int) body).2≠0->(Sr.append s u.id (un:Int) body).1=s):=fun e=>by unfold Sr.append at e ⊢;exact Tu.jc e
         have WH:Hid (Sr.Ok (Sr.append s u.id (un:Int) body).1):=lg.o.append _ _ _;go_wp2_with fail
         refine FU.o.mono ?_;rintro e X0 ⟨rfl,hat,hT⟩;have y8:=H9 (H7.o.did hat hT);clear hat hT FU H7 Fj x0 x1 x2 x3 x4 x5 x6 v0 v1 v2 v3 v4;generalize Sr.append s u.id (un:Int) body=ra at *;obtain⟨sa,ca⟩:=ra;simp only at HD CZ y8 WH ⊢;obtain⟨x0,x1,x2,x3,x4,x5,x6⟩:=HC.o _ _ _ y8.o;obtain⟨v0,v1,v2,v3,v4⟩:=HU.o _ _ _ y8.o;by_cases hca:ca=0
         . subst hca;rw[if_neg (by simp)] at HD;clear CZ;go_wp2_with fail
           refine(jV _).mono ?_;rintro e wq ⟨rfl,hw⟩;rw[hw];clear hw;rw[if_pos (WG.o.2 ⟨hy0,hsz⟩)] at HD;have t1:(u.size==-1)=true:=by rw[beq_iff_eq];omega
           have U9:=H9 (zS y8.o.sh WH.o u.id y);go_wp2_with fail
           refine U9.o.mono ?_;rintro e w21 ⟨rfl,hat,hT⟩;have WI:=H9 (y8.o.did hat hT);clear hat hT U9 y8 x0 x1 x2 x3 x4 x5 x6 v0 v1 v2 v3 v4;generalize Sr.declare sa u.id y=rd at *;obtain⟨sd,cd⟩:=rd;simp only at HD WI ⊢;obtain⟨x0,x1,x2,x3,x4,x5,x6⟩:=HC.o _ _ _ WI.o;obtain⟨v0,v1,v2,v3,v4⟩:=HU.o _ _ _ WI.o;have CY:=H9 (jk WI.o.sh);go_wp2_with fail
           refine CY.o.mono ?_;rintro e X3 ⟨rfl,oJ,kD⟩;have Qc:=H9 (WI.o.turned oJ kD);have FW:=H9 (jg Tu.nK (un+nb) ((un:Int)+nb) (by omega) (by omega) X3 (Qc.o.pow Bn.o));unfold Tu.nK at FW;generalize Tu.dec (un+nb)=db at *;clear oJ kD CY WI x0 x1 x2 x3 x4 x5 x6 v0 v1 v2 v3 v4;go_wp2_with fail
           refine FW.o.mono ?_;rintro e Qd ⟨rfl,hw⟩;have Qe:=H9 ((Qc.o.stay aQ hw).stay aQ ((Below.refl _ Qd).alloc (Nat.le_refl _) (.cells #[.string Tu.nK,.string db] 111)));have uG:=H9 (dD 204 204 rfl [(Tu.nK,db)] (some ⟨Qd.heap.size,0,none⟩) 1 1 _ (cu.made Qd #[.string Tu.nK,.string db] 1 111 (0,0)) rfl (by decide));unfold Tu.nK at uG Qe;clear hw FW Qc;go_wp2_with fail
           refine uG.o.mono ?_;rintro e w9 ⟨cB,aL,n9,rfl,eU,dH,iX⟩;obtain⟨⟨z0,z1,z2,y0,y1,y2⟩,HE⟩:=Qe.o.ends aQ (i:=2) rfl (b:=w.heap.size+2) (by first | rfl | omega) (st:=204) (fV:=204) rfl eU (Nat.le_trans (Nat.le_add_right _ _) Qe.o.sz) dH iX;clear eU dH iX;go_wp2;generalize (((w9.setCell ⟨w.heap.size+2,0,none⟩ (.int .i64 204)).setCell ⟨w.heap.size+2,1,none⟩ (.slice cB n9 aL)).setCell ⟨w.heap.size+2,2,none⟩ (.slice none 0 0))=wf at *;obtain⟨q0,q1,q2,q3⟩:=HE.o;refine bodyPost_ret (v:=.agg #[.int .i64 204,.slice cB n9 aL,.slice none 0 0]) (by simp[results,results91,go_sem,q0,q1,q2]) rfl ?_;rw[HD.o];exact fK.of q3
         . rw[if_pos hca] at HD;have hsa:=CZ.o hca;subst hsa;have VH:=H9 (lI ca hca X0);clear hca CZ;go_wp2_with fail
           refine(VH.o).mono ?_;rintro e w9 hG;obtain⟨HE,cB,aL,n9,he⟩:=y8.o.fell hG;unfold aX at he;subst he;clear hG;go_wp2;exact⟨rfl,by rw[HD.o];exact HE.o⟩
   . have hsz0:0<=u.size:=by omega
     by_cases hne:y=u.size
     . rw[if_neg (fun e=>e.elim (fun e=>by cases e) (fun e=>e.2.2 hne)),if_neg (fun e=>hsz (WG.o.1 e.1).2)] at HD;have HQ:=H9 (BM.o y w6 (Or.inl ⟨hsz0,hne⟩));clear hne;go_wp2_with fail
       refine(HQ.o).mono ?_;rintro e w7 ⟨rfl,hw⟩;have Fj:=H9 (then_ qj.o hw);have H7:=H9 (H6.o.stay aQ hw);clear hw H6 qj x0 x1 x2 x3 x4 x5 x6 v0 v1 v2 v3 v4;obtain⟨x0,x1,x2,x3,x4,x5,x6⟩:=HC.o _ _ _ H7.o;obtain⟨v0,v1,v2,v3,v4⟩:=HU.o _ _ _ H7.o;clear HQ;obtain⟨Ud,y7⟩:∃b,(decide ((0:Int)<=(nb:Int)+60)&&decide ((nb:Int)+60<=100000-(s.log.length:Int)))=b:=⟨_,rfl⟩;have eR:Ud=false<->100000<s.log.length+(nb+60):=by
        rw[<-y7,Bool.and_eq_false_iff,decide_eq_false_iff_not,decide_eq_false_iff_not];omega
       have Iq:=H9 (nH H7.o.sh ((nb:Int)+60));rw[y7] at Iq;clear y7;go_wp2_with fail
       refine Iq.o.mono ?_;rintro e wq ⟨rfl,hw⟩;rw[hw];clear hw;clear Iq;cases Ud with
       | false =>
         rw[if_pos (eR.1 rfl)] at HD;go_wp2_with fail
         refine(bB 507 507 rfl _).mono ?_;rintro e w9 hG;obtain⟨HE,cB,aL,n9,he⟩:=H7.o.fell hG;unfold aX at he;subst he;clear hG;go_wp2;exact⟨rfl,by rw[HD.o];exact HE.o⟩
       | true =>
         rw[if_neg (fun e=>by have:=eR.2 e;cases this)] at HD;clear eR;go_wp2_with fail
         refine(aW 507 none 0 0 _).mono ?_;rintro e wq ⟨rfl,hw⟩;rw[hw];clear hw;have FU:=H9 (jZ H7.o.sh lg.o u.id (un:Int) bo nb aj body (yJ.o _ Fj.o) Nf.o (by omega));have CZ:Hid ((Sr.append s u.id (un:Int) body).2≠0->(Sr.append s u.id (un:Int) body).1=s):=fun e=>by unfold Sr.append at e ⊢;exact Tu.jc e
         have WH:Hid (Sr.Ok (Sr.append s u.id (un:Int) body).1):=lg.o.append _ _ _;go_wp2_with fail
         refine FU.o.mono ?_;rintro e X0 ⟨rfl,hat,hT⟩;have y8:=H9 (H7.o.did hat hT);clear hat hT FU H7 Fj x0 x1 x2 x3 x4 x5 x6 v0 v1 v2 v3 v4;generalize Sr.append s u.id (un:Int) body=ra at *;obtain⟨sa,ca⟩:=ra;simp only at HD CZ y8 WH ⊢;obtain⟨x0,x1,x2,x3,x4,x5,x6⟩:=HC.o _ _ _ y8.o;obtain⟨v0,v1,v2,v3,v4⟩:=HU.o _ _ _ y8.o;by_cases hca:ca=0
         . subst hca;rw[if_neg (by simp)] at HD;clear CZ;go_wp2_with fail
           refine(jV _).mono ?_;rintro e wq ⟨rfl,hw⟩;rw[hw];clear hw;have t1:(u.size==-1)=false:=by rw[beq_eq_false_iff_ne];omega
           rw[if_neg (fun e=>by have:=(WG.o.1 e).2;omega)] at HD;have CY:=H9 (jk y8.o.sh);go_wp2_with fail
           refine CY.o.mono ?_;rintro e X3 ⟨rfl,oJ,kD⟩;have Qc:=H9 (y8.o.turned oJ kD);have FW:=H9 (jg Tu.nK (un+nb) ((un:Int)+nb) (by omega) (by omega) X3 (Qc.o.pow Bn.o));unfold Tu.nK at FW;generalize Tu.dec (un+nb)=db at *;clear oJ kD CY y8 x0 x1 x2 x3 x4 x5 x6 v0 v1 v2 v3 v4;go_wp2_with fail
           refine FW.o.mono ?_;rintro e Qd ⟨rfl,hw⟩;have Qe:=H9 ((Qc.o.stay aQ hw).stay aQ ((Below.refl _ Qd).alloc (Nat.le_refl _) (.cells #[.string Tu.nK,.string db] 111)));have uG:=H9 (dD 204 204 rfl [(Tu.nK,db)] (some ⟨Qd.heap.size,0,none⟩) 1 1 _ (cu.made Qd #[.string Tu.nK,.string db] 1 111 (0,0)) rfl (by decide));unfold Tu.nK at uG Qe;clear hw FW Qc;go_wp2_with fail
           refine uG.o.mono ?_;rintro e w9 ⟨cB,aL,n9,rfl,eU,dH,iX⟩;obtain⟨⟨z0,z1,z2,y0,y1,y2⟩,HE⟩:=Qe.o.ends aQ (i:=2) rfl (b:=w.heap.size+2) (by first | rfl | omega) (st:=204) (fV:=204) rfl eU (Nat.le_trans (Nat.le_add_right _ _) Qe.o.sz) dH iX;clear eU dH iX;go_wp2;generalize (((w9.setCell ⟨w.heap.size+2,0,none⟩ (.int .i64 204)).setCell ⟨w.heap.size+2,1,none⟩ (.slice cB n9 aL)).setCell ⟨w.heap.size+2,2,none⟩ (.slice none 0 0))=wf at *;obtain⟨q0,q1,q2,q3⟩:=HE.o;refine bodyPost_ret (v:=.agg #[.int .i64 204,.slice cB n9 aL,.slice none 0 0]) (by simp[results,results91,go_sem,q0,q1,q2]) rfl ?_;rw[HD.o];exact fK.of q3
         . rw[if_pos hca] at HD;have hsa:=CZ.o hca;subst hsa;have VH:=H9 (lI ca hca X0);clear hca CZ;go_wp2_with fail
           refine(VH.o).mono ?_;rintro e w9 hG;obtain⟨HE,cB,aL,n9,he⟩:=y8.o.fell hG;unfold aX at he;subst he;clear hG;go_wp2;exact⟨rfl,by rw[HD.o];exact HE.o⟩
     . rw[if_pos (Or.inr ⟨hy0,hsz0,hne⟩)] at HD;have HQ:=H9 (Bc.o y w6 hsz0 hne);clear hne;go_wp2_with fail
       refine(HQ.o).mono ?_;rintro e w9 hG;obtain⟨HE,cB,aL,n9,he⟩:=H6.o.fell hG;unfold aX at he;subst he;clear hG;go_wp2;exact⟨rfl,by rw[HD.o];exact HE.o⟩
end
def y9:Tx:=fun _ _ _ _=>True
theorem gY:yA y9:=⟨fun _ _ _=>trivial,fun _ _=>trivial⟩
def Fq:Nat->Prop:=fun _=>False
theorem sj.Qf {w w':World}{g:Nat}{s:Sr.Sh}{r:Tu.qY}{e:Ending}(h:sj y9 Fq w g (s,r) e w'):Em w r e w':=by
 obtain⟨⟨ao,cap,n,he,hn,hO⟩,_,hT⟩:=h;exact⟨ao,cap,n,he,hn,hO,hT.below (fun _ e=>e.elim) (Nat.le_refl _)⟩
theorem Ue (w:World)(oa:Obj):bP y9 Fq w 0 [oa] Sr.new (fun k=>Fq k∧k<w.heap.size) (w.alloc oa) :=
 (bP.start (O:=y9) (S:=Fq) (g:=0) (s:=Sr.new) gY trivial).box gY rfl (fun _ e=>e.1.elim) _
theorem X4 (w:World)(oa ob:Obj):bP y9 Fq w 0 [oa,ob] Sr.new (fun k=>Fq k∧k<w.heap.size) ((w.alloc oa).alloc ob):=by
 have hz:(w.alloc oa).heap.size=w.heap.size+1:=World.size_alloc ..;exact(Ue w oa).box gY hz (fun _ e=>e.1.elim) _
theorem CF (w:World)(hP:gU w):Calls prog 84 #[] w fun e w'=>Em w (Tu.said 204 [(Tu.qd,Tu.cO),(Tu.NK,Tu.nX),(Tu.NM,Tu.NN)]) e w':=by
 have H1:=H9 (Ue w (.cells #[.int .i64 0,.slice none 0 0,.slice none 0 0] 88));have HB1:=H9 ((Below.refl _ w).alloc (Nat.le_refl _) (.cells #[.int .i64 0,.slice none 0 0,.slice none 0 0] 88));have HF1:=H9 (dL Tu.qd Tu.cO (w.alloc (.cells #[.int .i64 0,.slice none 0 0,.slice none 0 0] 88)));have Bn:=H9 hP;clear hP;unfold Tu.qd Tu.cO at HF1;go_enter func84,ntmps84;go_wp2_with fail
 refine HF1.o.mono ?_;rintro e w2 ⟨rfl,hw2⟩;have H2:=H9 (H1.o.stay gY hw2);have HB2:=H9 (then_ HB1.o hw2);have FW:=H9 (jg Tu.NK 2000 2000 rfl (by decide) w2 (Bn.o.stay HB2.o));rw[show Tu.dec 2000=Tu.nX from by decide +kernel] at FW;unfold Tu.NK Tu.nX at FW;clear hw2 HF1 H1 HB1;go_wp2_with fail
 refine FW.o.mono ?_;rintro e w3 ⟨rfl,hw3⟩;have H3:=H9 (H2.o.stay gY hw3);have XK:=H9 (dL Tu.NM Tu.NN w3);unfold Tu.NM Tu.NN at XK;clear hw3 FW H2 HB2;go_wp2_with fail
 refine XK.o.mono ?_;rintro e w4 ⟨rfl,hw4⟩;have H4:=H9 ((H3.o.stay gY hw4).stay gY ((Below.refl _ w4).alloc (Nat.le_refl _) (.cells #[.string Tu.qd,.string Tu.cO,.string Tu.NK,.string Tu.nX,.string Tu.NM,.string Tu.NN] 111)));have uG:=H9 (dD 204 204 rfl [(Tu.qd,Tu.cO),(Tu.NK,Tu.nX),(Tu.NM,Tu.NN)] (some ⟨w4.heap.size,0,none⟩) 3 3 _ (cu.made w4 #[.string Tu.qd,.string Tu.cO,.string Tu.NK,.string Tu.nX,.string Tu.NM,.string Tu.NN] 3 111 (0,0)) rfl (by decide));unfold Tu.qd Tu.cO Tu.NK Tu.nX Tu.NM Tu.NN at uG H4;clear hw4 XK H3;go_wp2_with fail
 refine uG.o.mono ?_;rintro e w9 ⟨cB,aL,n9,rfl,eU,dH,iX⟩;obtain⟨⟨z0,z1,z2,y0,y1,y2⟩,HE⟩:=H4.o.ends gY (i:=0) rfl (b:=w.heap.size) (by first | rfl | omega) (st:=204) (fV:=204) rfl eU (Nat.le_trans (Nat.le_add_right _ _) H4.o.sz) dH iX;clear eU dH iX;go_wp2;generalize (((w9.setCell ⟨w.heap.size,0,none⟩ (.int .i64 204)).setCell ⟨w.heap.size,1,none⟩ (.slice cB n9 aL)).setCell ⟨w.heap.size,2,none⟩ (.slice none 0 0))=wf at *;obtain⟨q0,q1,q2,q3⟩:=HE.o;refine bodyPost_ret (v:=.agg #[.int .i64 204,.slice cB n9 aL,.slice none 0 0]) (by simp[results,results84,go_sem,q0,q1,q2]) rfl ?_;exact sj.Qf (r:=Tu.said 204 [(Tu.qd,Tu.cO),(Tu.NK,Tu.nX),(Tu.NM,Tu.NN)]) q3
theorem qB (u:Sp.Up)(uo:Option Addr)(un bM:Nat)(hun:u.bytes.length=un)(hs0:-1<=u.size)(hs1:u.size<=2000)(Nh:un<=2000)(w:World)(hP:gU w):
 Calls prog 90 #[.agg #[.int .i64 u.id,.int .i64 u.size,.string u.note,.slice uo un bM,.int .i64 u.sent]] w fun e w'=>Em w (Tu.head u) e w':=by
 have T2:=X4 w (.cells #[.int .i64 u.id,.int .i64 u.size,.string u.note,.slice uo un bM,.int .i64 u.sent] 101) (.cells #[.int .i64 0,.slice none 0 0,.slice none 0 0] 88);have HC:Hid (∀W s' S',bP y9 Fq w 0 [.cells #[.int .i64 u.id,.int .i64 u.size,.string u.note,.slice uo un bM,.int .i64 u.sent] 101 (0,0),.cells #[.int .i64 0,.slice none 0 0,.slice none 0 0] 88 (0,0)] s' S' W->W.cell? ⟨w.heap.size,1,none⟩=some (.int .i64 u.size)∧W.cell? ⟨w.heap.size,2,none⟩=some (.string u.note)∧W.cell? ⟨w.heap.size,3,none⟩=some (.slice uo un bM)):=fun W s' S' hW=>by
  have r:=hW.row 0 rfl;exact⟨cell_of_row W _ 1 _ _ _ r,cell_of_row W _ 2 _ _ _ r,cell_of_row W _ 3 _ _ _ r⟩
 obtain⟨x1,x2,x3⟩:=HC.o _ _ _ T2;have HB2:Hid (Below w.heap.size w ((w.alloc (.cells #[.int .i64 u.id,.int .i64 u.size,.string u.note,.slice uo un bM,.int .i64 u.sent] 101)).alloc (.cells #[.int .i64 0,.slice none 0 0,.slice none 0 0] 88))):=then_ ((Below.refl _ w).alloc (Nat.le_refl _) _) ((Below.refl _ _).alloc (Nat.le_refl _) _);have H2:=H9 T2;have Bn:=H9 hP;have VI:=H9 hun;clear T2 hun;obtain⟨sv,hcnt,hsv⟩:∃sv:ByteArray,Hid (∀W,Below w.heap.size w W->Calls prog 116 #[.string Tu.xk,.int .i64 u.size] W fun e w'=>e=.returned (.agg #[.string Tu.xk,.string sv])∧Below W.heap.size W w')∧(0<=u.size->sv=Tu.dec u.size.toNat):=by
  by_cases h0:0<=u.size
  . exact⟨_,fun W hW=>jg Tu.xk u.size.toNat u.size (by omega) (by omega) W (hP.stay hW),fun _=>rfl⟩
  . have e1:u.size=-1:=by omega
    rw[e1];refine⟨⟨(Lib.itoa (-1)).toArray⟩,fun W hW=>?_,fun e=>absurd e (by omega)⟩;refine AV Tu.xk _ (-1) W (fun W2 hW2=>?_);refine(Any.strconv_Itoa Tryz.lays171 (-1) (by decide) (by decide) W2 (hP.stay (then_ hW hW2))).mono ?_;rintro e w' ⟨he,k,os,rfl⟩;exact⟨he,Lib.below_grow _ W2 (Nat.le_refl _) k os⟩
 have R9:=H9 (hcnt.out _ HB2.o);unfold Tu.xk at R9;clear hcnt hP;obtain⟨pn,pv,hpp⟩:∃pn pv:ByteArray,(pn,pv)=(if u.size<0 then (Tu.xq,Tu.qH) else (Tu.xk,Tu.dec u.size.toNat)):=⟨_,_,rfl⟩;obtain⟨R,hR⟩:∃R,R=Tu.head u:=⟨_,rfl⟩;rw[<-hR];have HD:Hid (R=Tu.said 200 ((Tu.nK,Tu.dec un)::(pn,pv)::(Tu.F3,Tu.F4)::(if u.note.size=0 then [] else [(Tu.FN,u.note)]))):=by
  unfold Hid;rw[hR];unfold Tu.head;rw[<-hpp,VI.o]
 have CX:Hid ((pn,pv)=(if u.size<0 then (Tu.xq,Tu.qH) else (Tu.xk,Tu.dec u.size.toNat))):=hpp;have HSv:=H9 hsv;clear hR hpp hsv;go_enter func90,ntmps90;go_wp2_with fail
 refine R9.o.mono ?_;rintro e w3 ⟨rfl,hw3⟩;have H3:=H9 (H2.o.stay gY hw3);have HB3:=H9 (then_ HB2.o hw3);clear hw3 R9 H2 HB2 x1 x2 x3;have hb4:=(Below.refl _ w3).alloc (Nat.le_refl _) (.cells #[.string Tu.xk,.string sv] 111);have H4:=H9 (H3.o.stay gY hb4);have ig:=H9 (then_ HB3.o hb4);have HR4:Hid ((w3.alloc (.cells #[.string Tu.xk,.string sv] 111)).heap[w3.heap.size]? = some (.cells #[.string Tu.xk,.string sv] 111 (0,0))):=heap_alloc_new w3 _;have HZ4:Hid (w.heap.size+2<=w3.heap.size):=H3.o.sz;obtain⟨x1,x2,x3⟩:=HC.o _ _ _ H4.o;unfold Tu.xk at H4 ig HR4;unfold Tu.xk at x1 x2 x3;clear hb4 H3 HB3;go_upto_region 2 with fail
 generalize (w3.alloc (.cells #[.string ⟨#[85,112,108,111,97,100,45,76,101,110,103,116,104]⟩,.string sv] 111))=w4 at *;generalize w3.heap.size=kb at *;obtain⟨bn,hbn⟩:∃b,(u.size==-1)=b:=⟨_,rfl⟩;have Ze:Hid (bn=true<->u.size<0):=by
  unfold Hid;rw[<-hbn,beq_iff_eq];omega
 go_upto_if 10 with fail
 go_cut [11] (fun _ wd=>bP y9 Fq w 0 [.cells #[.int .i64 u.id,.int .i64 u.size,.string u.note,.slice uo un bM,.int .i64 u.sent] 101 (0,0),.cells #[.int .i64 0,.slice none 0 0,.slice none 0 0] 88 (0,0)] Sr.new (fun k=>Fq k∧k<w.heap.size) wd∧Below w.heap.size w wd∧wd.heap[kb]? = some (.cells #[.string pn,.string pv] 111 (0,0)))
 case first =>
  cases bn with
  | true =>
    have oV:=H9 (dL Tu.xq Tu.qH w4);have hpp:=CX.o;rw[if_pos (Ze.o.1 rfl)] at hpp;injection hpp with hp1 hp2;subst hp1;subst hp2;unfold Tu.xq Tu.qH at oV;go_wp2_with fail
    refine oV.o.mono ?_;rintro e w5 ⟨rfl,Cr⟩;have kW:=(Cr.block kb (Array.getElem?_eq_some_iff.1 HR4.o).1).trans HR4.o;have c0:=cell_of_row w5 _ 0 _ _ _ kW;have c1:=cell_of_row w5 _ 1 _ _ _ kW
    have y0:=frozen_of_row w5 _ 0 _ _ kW;have y1:=frozen_of_row w5 _ 1 _ _ kW
    simp at c0 c1;have Im:=aM kb [.string Tu.xq,.string Tu.qH] 0 w5;have HX:Hid (bP y9 Fq w 0 [.cells #[.int .i64 u.id,.int .i64 u.size,.string u.note,.slice uo un bM,.int .i64 u.sent] 101 (0,0),.cells #[.int .i64 0,.slice none 0 0,.slice none 0 0] 88 (0,0)] Sr.new (fun k=>Fq k∧k<w.heap.size) ((w5.setCell ⟨kb,0,none⟩ (.string Tu.xq)).setCell ⟨kb,1,none⟩ (.string Tu.qH))∧Below w.heap.size w ((w5.setCell ⟨kb,0,none⟩ (.string Tu.xq)).setCell ⟨kb,1,none⟩ (.string Tu.qH))∧((w5.setCell ⟨kb,0,none⟩ (.string Tu.xq)).setCell ⟨kb,1,none⟩ (.string Tu.qH)).heap[kb]? = some (.cells #[.string Tu.xq,.string Tu.qH] 111 (0,0))):=by
     have hz:=HZ4.o;have hb:=then_ ig.o Cr;exact⟨(H4.o.stay gY Cr).aside gY Im hz (fun e=>e.1.elim),(hb.setCell (p:=⟨kb,0,none⟩) (by show w.heap.size<=kb;omega) _).setCell (p:=⟨kb,1,none⟩) (by show w.heap.size<=kb;omega) _,heap_setCell_same _ _ 1 _ _ (.string Tu.qH) (heap_setCell_same _ _ 0 _ _ (.string Tu.xq) kW)⟩
    unfold Tu.xq Tu.qH at HX;clear Cr kW Im oV x1 x2 x3;go_wp2;go_meet;exact HX.o
  | false =>
    have hpp:=CX.o;rw[if_neg (fun e=>by have:=Ze.o.2 e;cases this)] at hpp;injection hpp with hp1 hp2;have hsv:=HSv.o (by
     rcases Int.lt_or_le u.size 0 with e | e
     . have:=Ze.o.2 e;cases this
     . exact e)
    rw[<-hp2] at hsv;subst hp1;subst hsv;go_wp2;go_meet;exact⟨H4.o,ig.o,HR4.o⟩
 case rest =>
  obtain⟨hT,hB,hr⟩:=hcut;have HT:=H9 hT;have HB:=H9 hB;have HR:=H9 hr
  have hkl:=(Array.getElem?_eq_some_iff.1 hr).1;have FR:Hid (∀W,Below w.heap.size w W->Calls prog 116 #[.string Tu.nK,.int .i64 (un:Int)] W fun e w'=>e=.returned (.agg #[.string Tu.nK,.string (Tu.dec un)])∧Below W.heap.size W w'):=fun W hW=>jg Tu.nK un un rfl (by omega) W (Bn.o.stay hW);have HFc:Hid (∀W,Calls prog 87 #[.string Tu.F3,.string Tu.F4] W fun e w'=>e=.returned (.agg #[.string Tu.F3,.string Tu.F4])∧Below W.heap.size W w'):=fun W=>dL Tu.F3 Tu.F4 W;have Zf:Hid (∀W,Below wc.heap.size wc W->W.cell? ⟨w.heap.size,3,none⟩=some (.slice uo un bM)∧W.cell? ⟨kb,0,none⟩=some (.string pn)∧W.cell? ⟨kb,1,none⟩=some (.string pv)):=fun W hW=>by
   have hr':=(hW.block kb hkl).trans HR.o;exact⟨(HC.o _ _ _ (HT.o.stay gY hW)).2.2,cell_of_row W _ 0 _ _ _ hr',cell_of_row W _ 1 _ _ _ hr'⟩
  generalize Tu.dec un=du at *;have Pn:Hid (∀W,Below wc.heap.size wc W->aC (W.alloc (.cells #[.string Tu.nK,.string du,.string pn,.string pv,.string Tu.F3,.string Tu.F4] 111)) (w.heap.size+2) 111 2 (some ⟨W.heap.size,0,none⟩) 3 3 (aB [(Tu.nK,du),(pn,pv),(Tu.F3,Tu.F4)])∧bP y9 Fq w 0 [.cells #[.int .i64 u.id,.int .i64 u.size,.string u.note,.slice uo un bM,.int .i64 u.sent] 101 (0,0),.cells #[.int .i64 0,.slice none 0 0,.slice none 0 0] 88 (0,0)] Sr.new (fun k=>Fq k∧k<w.heap.size) (W.alloc (.cells #[.string Tu.nK,.string du,.string pn,.string pv,.string Tu.F3,.string Tu.F4] 111))∧Below w.heap.size w (W.alloc (.cells #[.string Tu.nK,.string du,.string pn,.string pv,.string Tu.F3,.string Tu.F4] 111))):=fun W hW=>by
   have h1:=HT.o.stay gY hW;have hba:=(Below.refl _ W).alloc (Nat.le_refl _) (.cells #[.string Tu.nK,.string du,.string pn,.string pv,.string Tu.F3,.string Tu.F4] 111);exact⟨World.ownsRow_lit W #[.string Tu.nK,.string du,.string pn,.string pv,.string Tu.F3,.string Tu.F4] 3 h1.sz (by decide) rfl,h1.stay gY hba,then_ (then_ HB.o hW) hba⟩
  unfold Tu.nK at FR;unfold Tu.F3 Tu.F4 at HFc;obtain⟨s0,s1,s2⟩:=Zf.o _ (Below.refl _ _);have Zg:Hid (Below wc.heap.size wc wc.drew):=aA _ _;clear hT hB hr hkl H4 ig HR4 x1 x2 x3 CX HSv Ze hbn;go_upto_region 4 with fail
  go_cut [4] (fun v4 wd=>∃(ao:Option Addr) (cap:Nat),v4=.slice ao 3 cap∧aC wd (w.heap.size+2) 111 2 ao cap 3 (aB [(Tu.nK,du),(pn,pv),(Tu.F3,Tu.F4)])∧bP y9 Fq w 0 [.cells #[.int .i64 u.id,.int .i64 u.size,.string u.note,.slice uo un bM,.int .i64 u.sent] 101 (0,0),.cells #[.int .i64 0,.slice none 0 0,.slice none 0 0] 88 (0,0)] Sr.new (fun k=>Fq k∧k<w.heap.size) wd∧Below w.heap.size w wd)
  case first =>
   go_region_held3 (fun W=>W.cell? ⟨w.heap.size,3,none⟩=some (.slice uo un bM)∧W.cell? ⟨kb,0,none⟩=some (.string pn)∧W.cell? ⟨kb,1,none⟩=some (.string pv)) (go_keep) (first
    | (go_at_call 116;refine(FR.o _ (then_ HB.o (by first | with_reducible exact HbF.o | with_reducible exact Zg.o))).mono ?_;rintro e wC ⟨rfl,hC⟩;have hbC:=then_ (by first | with_reducible exact HbF.o | with_reducible exact Zg.o) hC;have HbC:=H9 hbC;obtain⟨a0,a1,a2⟩:=Zf.o _ hbC;clear hC hbC)
    | (go_at_call 87;refine(HFc.o _).mono ?_;rintro e wF ⟨rfl,hF⟩;have hbF:=then_ (by first | with_reducible exact HbC.o | with_reducible exact Zg.o) hF;have HbF:=H9 hbF;obtain⟨a0,a1,a2⟩:=Zf.o _ hbF;clear hF hbF))
   all_goals
    go_wp2;go_meet;first
     | exact⟨_,_,rfl,Pn.o _ HbF.o⟩
     | exact⟨_,_,rfl,Pn.o _ HbC.o⟩
  case rest =>
   obtain⟨ao,cap,rfl,hO,hT,hB⟩:=hcut;have H5:=H9 hT;have kU:=H9 hB;have zI:=H9 hO
   clear hO hT hB Pn Zg s0 s1 s2 Zf FR HFc HT HB HR;obtain⟨x1,x2,x3⟩:=HC.o _ _ _ H5.o;obtain⟨bm,hbm⟩:∃b,(u.note.toList==([]:List UInt8))=b:=⟨_,rfl⟩;have eM:u.note.size=0<->bm=true:=by
    rw[<-hbm,beq_iff_eq,Lib.toList_data];rw[<-List.length_eq_zero_iff,Array.length_toList];exact Iff.rfl
   cases bm with
   | true =>
     rw[if_pos (eM.2 rfl)] at HD;have uG:=H9 (dD 200 200 rfl [(Tu.nK,du),(pn,pv),(Tu.F3,Tu.F4)] ao cap 3 wc zI.o.lQ rfl (by decide));clear eM HC;go_wp2_with fail
     refine uG.o.mono ?_;rintro e w9 ⟨cB,aL,n9,rfl,eU,dH,iX⟩;obtain⟨⟨z0,z1,z2,y0,y1,y2⟩,HE⟩:=H5.o.ends gY (i:=1) rfl (b:=w.heap.size+1) (by first | rfl | omega) (st:=200) (fV:=200) rfl eU (Nat.le_trans (Nat.le_add_right _ _) H5.o.sz) dH iX;clear eU dH iX;go_wp2;generalize (((w9.setCell ⟨w.heap.size+1,0,none⟩ (.int .i64 200)).setCell ⟨w.heap.size+1,1,none⟩ (.slice cB n9 aL)).setCell ⟨w.heap.size+1,2,none⟩ (.slice none 0 0))=wf at *;obtain⟨q0,q1,q2,q3⟩:=HE.o;refine bodyPost_ret (v:=.agg #[.int .i64 200,.slice cB n9 aL,.slice none 0 0]) (by simp[results,results90,go_sem,q0,q1,q2]) rfl ?_;rw[HD.o];exact sj.Qf q3
   | false =>
     rw[if_neg (fun e=>by have:=eM.1 e;cases this)] at HD;obtain⟨i0,hi0,hz0,hz1,hz2⟩:=info_parts l9;have Hi:=H9 hi0;have gQ:=H9 hz0;have gK:=H9 hz1;have gT:=H9 hz2
     have X5:=H9 (dL Tu.FN u.note wc);unfold Tu.FN at X5;clear eM HC hi0 hz0 hz1 hz2;go_wp2_with fail
     refine X5.o.mono ?_;rintro e w6 ⟨rfl,WE⟩;have hba:=(Below.refl _ w6).alloc (Nat.le_refl _) (.cells #[.string Tu.FN,.string u.note] 111);have H6:=H9 ((H5.o.stay gY WE).stay gY hba);have D6:=H9 ((zI.o.stay WE).alloc (.cells #[.string Tu.FN,.string u.note] 111));have X6:Hid (w.heap.size+2<=(w6.alloc (.cells #[.string Tu.FN,.string u.note] 111)).heap.size):=H6.o.sz;have HP6:Hid (∀(WJ:Option Addr) (Cc:Nat) (w7:World),(w6.alloc (.cells #[.string Tu.FN,.string u.note] 111)).grownBy w7 (au ao)->bP y9 Fq w 0 [.cells #[.int .i64 u.id,.int .i64 u.size,.string u.note,.slice uo un bM,.int .i64 u.sent] 101 (0,0),.cells #[.int .i64 0,.slice none 0 0,.slice none 0 0] 88 (0,0)] Sr.new (fun k=>Fq k∧k<w.heap.size) w7):=fun WJ Cc w7 hG=>by
      cases ao with
      | none=>exact H6.o.stay gY ((Below.refl _ _).grown hG (Nat.le_refl _) (fun q e=>by cases e))
      | some a =>
        have hab:=(D6.o.block a rfl).1;exact H6.o.aside gY (b:=a.block) (Turns.bI hG (fun k e=>by injection e with e;exact e.symm)) hab (fun e=>e.1.elim)
     unfold Tu.FN at H6 D6 X6 HP6;clear WE hba X5 H5 zI x1 x2 x3;go_wp2_with (at_builtin;refine aK rfl (.tmp 22) (.tmp 26) 66 rfl (w.heap.size+2) 111 i0 (.agg #[.string ⟨#[]⟩,.string ⟨#[]⟩]) 2 32 underlying66 Hi.o gQ.o gK.o gT.o rfl (by decide) rfl D6.o rfl (cu.made w6 _ 1 _ _) rfl (Gy _ _) (by decide) (by decide) X6.o ?_;intro WJ Cc w7 XT Uf _;have H7:=H9 (HP6.o WJ Cc w7 Uf);have uG:=H9 (dD 200 200 rfl [(Tu.nK,du),(pn,pv),(Tu.F3,Tu.F4),(Tu.FN,u.note)] WJ Cc 4 w7 XT.lQ rfl (by decide));clear XT Uf HP6 D6 H6 X6)
     refine uG.o.mono ?_;rintro e w9 ⟨cB,aL,n9,rfl,eU,dH,iX⟩;obtain⟨⟨z0,z1,z2,y0,y1,y2⟩,HE⟩:=H7.o.ends gY (i:=1) rfl (b:=w.heap.size+1) (by first | rfl | omega) (st:=200) (fV:=200) rfl eU (Nat.le_trans (Nat.le_add_right _ _) H7.o.sz) dH iX;clear eU dH iX;go_wp2;generalize (((w9.setCell ⟨w.heap.size+1,0,none⟩ (.int .i64 200)).setCell ⟨w.heap.size+1,1,none⟩ (.slice cB n9 aL)).setCell ⟨w.heap.size+1,2,none⟩ (.slice none 0 0))=wf at *;obtain⟨q0,q1,q2,q3⟩:=HE.o;refine bodyPost_ret (v:=.agg #[.int .i64 200,.slice cB n9 aL,.slice none 0 0]) (by simp[results,results90,go_sem,q0,q1,q2]) rfl ?_;rw[HD.o];exact sj.Qf q3
section
variable {g:Nat} {m t:ByteArray} {mi ln:Int} {l:List (ByteArray×ByteArray)} {fo:Option Addr} {ak nf:Nat} {bo:Option Addr} {aj nb:Nat} {w w0:World} {S:Nat->Prop} {s:Sr.Sh}
theorem Fu (p:oN w0 w S)(h:aN w S g s)(ok:Sr.Ok s)(hF:jI w l fo ak nf):
 Calls prog 88 #[.agg #[.pointer (some ⟨g,0,none⟩),.string m,.string t,.int .i64 mi,.slice fo nf ak,.int .i64 ln,.slice bo nb aj]] w fun e w'=>fK S w g (Tu.post s m l) e w':=by
 have T2:bP aN S w g [.cells #[.pointer (some ⟨g,0,none⟩),.string m,.string t,.int .i64 mi,.slice fo nf ak,.int .i64 ln,.slice bo nb aj] 123 (0,0),.cells #[.int .i64 0,.slice none 0 0,.slice none 0 0] 88 (0,0)] s (fun k=>S k∧k<w.heap.size) ((w.alloc (.cells #[.pointer (some ⟨g,0,none⟩),.string m,.string t,.int .i64 mi,.slice fo nf ak,.int .i64 ln,.slice bo nb aj] 123)).alloc (.cells #[.int .i64 0,.slice none 0 0,.slice none 0 0] 88)):=JQ h _;have HB2:Hid (Below w.heap.size w ((w.alloc (.cells #[.pointer (some ⟨g,0,none⟩),.string m,.string t,.int .i64 mi,.slice fo nf ak,.int .i64 ln,.slice bo nb aj] 123)).alloc (.cells #[.int .i64 0,.slice none 0 0,.slice none 0 0] 88))):=then_ ((Below.refl _ w).alloc (Nat.le_refl _) _) ((Below.refl _ _).alloc (Nat.le_refl _) _);have HC:Hid (∀W s' S',bP aN S w g [.cells #[.pointer (some ⟨g,0,none⟩),.string m,.string t,.int .i64 mi,.slice fo nf ak,.int .i64 ln,.slice bo nb aj] 123 (0,0),.cells #[.int .i64 0,.slice none 0 0,.slice none 0 0] 88 (0,0)] s' S' W->W.cell? ⟨w.heap.size,0,none⟩=some (.pointer (some ⟨g,0,none⟩))∧W.cell? ⟨w.heap.size,1,none⟩=some (.string m)∧W.cell? ⟨w.heap.size,2,none⟩=some (.string t)∧W.cell? ⟨w.heap.size,3,none⟩=some (.int .i64 mi)∧W.cell? ⟨w.heap.size,4,none⟩=some (.slice fo nf ak)∧W.cell? ⟨w.heap.size,5,none⟩=some (.int .i64 ln)∧W.cell? ⟨w.heap.size,6,none⟩=some (.slice bo nb aj)):=fun W s' S' hW=>hW.ex;obtain⟨x0,x1,x2,x3,x4,x5,x6⟩:=HC.o _ _ _ T2;have H2:=H9 T2;have HF:=H9 hF;have lg:=H9 ok;have Bn:=H9 p
 clear T2 hF ok p h;obtain⟨R,hR⟩:∃R,R=Tu.post s m l:=⟨_,rfl⟩;rw[<-hR];unfold Tu.post at hR;have HD:=H9 hR;clear hR;obtain⟨bp,hbp⟩:∃b,(m.toList==([80,79,83,84]:List UInt8))=b:=⟨_,rfl⟩;have eP:m=Tu.Ao<->bp=true:=by rw[<-hbp];exact Tu.QT m Tu.Ao _ rfl
 go_enter func88,ntmps88;cases bp with
 | false =>
   rw[if_pos (fun e=>by have:=eP.1 e;cases this)] at HD;go_wp2_with fail
   refine(bB 405 405 rfl _).mono ?_;rintro e w9 hG;obtain⟨HE,cB,aL,n9,he⟩:=H2.o.fell hG;unfold aX at he;subst he;clear hG;go_wp2;exact⟨rfl,by rw[HD.o];exact HE.o⟩
 | true =>
   rw[if_neg (fun e=>e (eP.2 rfl))] at HD;clear eP;go_wp2_with fail
   refine(aW 405 none 0 0 _).mono ?_;rintro e wq ⟨rfl,hw⟩;rw[hw];clear hw;cases hnn:(Tu.bT (Tu.one (Tu.vals Tu.xg l))).2 with
   | false =>
     rw[if_pos hnn] at HD;have wm:=H9 (K7 (g:=g) (m:=m) (t:=t) (mi:=mi) (ln:=ln) (bo:=bo) (aj:=aj) (nb:=nb) (HF.o.stay HB2.o) hnn);clear hnn;go_wp2_with fail
     refine(wm.o).mono ?_;rintro e w9 hG;obtain⟨HE,cB,aL,n9,he⟩:=H2.o.fell hG;unfold aX at he;subst he;clear hG;go_wp2;exact⟨rfl,by rw[HD.o];exact HE.o⟩
   | true =>
     rw[if_neg (by rw[hnn];simp)] at HD;obtain⟨hsz1,hsz2⟩:=K8 (g:=g) (m:=m) (t:=t) (mi:=mi) (ln:=ln) (bo:=bo) (aj:=aj) (nb:=nb) (HF.o.stay HB2.o) hnn;clear hnn;by_cases hbad:Tu.pV l
     . have wm:=H9 (hsz1 hbad);unfold Tu.pV at hbad;rw[if_pos hbad] at HD;clear hsz1 hsz2 hbad;go_wp2_with fail
       refine(wm.o).mono ?_;rintro e w9 hG;obtain⟨HE,cB,aL,n9,he⟩:=H2.o.fell hG;unfold aX at he;subst he;clear hG;go_wp2;exact⟨rfl,by rw[HD.o];exact HE.o⟩
     . have wm:=H9 (hsz2 hbad);unfold Tu.pV at hbad;rw[if_neg hbad] at HD;clear hsz1 hsz2 hbad;generalize (Tu.bT (Tu.one (Tu.vals Tu.xg l))).1=n at *;go_wp2_with fail
       refine wm.o.mono ?_;rintro e w3 ⟨rfl,hw3⟩;have HB3:=H9 (then_ HB2.o hw3);have H3:=H9 (H2.o.stay aQ hw3);clear hw3 wm x0 x1 x2 x3 x4 x5 x6;obtain⟨x0,x1,x2,x3,x4,x5,x6⟩:=HC.o _ _ _ H3.o;have hzm:=HF.o.val Tu.UA;generalize Zh:Tu.one (Tu.vals Tu.UA l)=rm at *;obtain⟨vm,cm⟩:=rm;simp only at hzm HD;by_cases VJ:cm=9
       . subst VJ;rw[if_pos rfl] at HD;have HT:=H9 (kQ (g:=g) (m:=m) (t:=t) (mi:=mi) (ln:=ln) (bo:=bo) (aj:=aj) (nb:=nb) Tu.FN (by decide) (HF.o.stay HB3.o) (by rw[Tu.Eo];exact Zh));unfold Tu.FN at HT;clear Zh hzm;go_wp2_with fail
         refine(HT.o).mono ?_;rintro e w9 hG;obtain⟨HE,cB,aL,n9,he⟩:=H3.o.fell hG;unfold aX at he;subst he;clear hG;go_wp2;exact⟨rfl,by rw[HD.o];exact HE.o⟩
       . rw[if_neg VJ] at HD;have HT:=H9 (jh (g:=g) (m:=m) (t:=t) (mi:=mi) (ln:=ln) (bo:=bo) (aj:=aj) (nb:=nb) Tu.FN (by decide) (HF.o.stay HB3.o) (by rw[Tu.Eo];exact Zh) VJ);unfold Tu.FN at HT;clear Zh VJ;generalize decide (cm=0)=cb at *;have hzz:(Sr.QS vm).size<=1000000:=by rw[Sr.Nz];omega
         rw[show(⟨vm.toArray⟩:ByteArray)=Sr.QS vm from rfl] at HT;have CZ:Hid ((Sr.create s n (Sr.QS vm)).2≠0->(Sr.create s n (Sr.QS vm)).1=s):=fun e=>by unfold Sr.create at e ⊢;exact Tu.jc e
         generalize Sr.QS vm=mb at *;clear hzm;go_wp2_with fail
         refine HT.o.mono ?_;rintro e w4 ⟨rfl,hw4⟩;have ig:=H9 (then_ HB3.o hw4);have H4:=H9 (H3.o.stay aQ hw4);clear hw4 HT H3 x0 x1 x2 x3 x4 x5 x6;obtain⟨x0,x1,x2,x3,x4,x5,x6⟩:=HC.o _ _ _ H4.o;have Ni:=H9 (sN H4.o.sh lg.o n mb hzz);clear hzz;go_wp2_with fail
         refine Ni.o.mono ?_;rintro e w5 ⟨rfl,hat,hT⟩;have H5:=H9 (H4.o.did hat hT);clear hat hT Ni H4 x0 x1 x2 x3 x4 x5 x6;generalize Sr.create s n mb=ra at *;obtain⟨sa,ca⟩:=ra;simp only at HD CZ H5 ⊢;obtain⟨x0,x1,x2,x3,x4,x5,x6⟩:=HC.o _ _ _ H5.o;by_cases hca:ca=0
         . subst hca;rw[if_neg (by simp)] at HD;have VK:=lg.o.h.wU;have VL:=lg.o.Di;have EA:Sr.wZ s 0=s.h.last+1:=by unfold Sr.wZ;rw[if_pos rfl]
           rw[EA];clear EA;have Vh:Hid (∀W,gU W->Calls prog 122 #[.int .i64 (s.h.last+1)] W fun e w'=>e=.returned (.string (Tu.dec (s.h.last+1).toNat))∧Below W.heap.size W w'):=fun W hW=>by
            have:=mg (s.h.last+1).toNat (by omega) W hW;rw[show(((s.h.last+1).toNat:Nat):Int)=s.h.last+1 from by omega] at this;exact this
           have hdz:(Tu.dec (s.h.last+1).toNat).size<=9:=by
            show(Ch.bY 8 _).toArray.size<=9;rw[List.size_toArray];have:=Ch.dA 8 (s.h.last+1).toNat;omega
           generalize Tu.dec (s.h.last+1).toNat=db at *;generalize s.h.last+1=lid at *;clear VK VL;go_wp2_with fail
           refine(jV _).mono ?_;rintro e wq ⟨rfl,hw⟩;rw[hw];clear hw;have CY:=H9 (jk H5.o.sh);go_wp2_with fail
           refine CY.o.mono ?_;rintro e w6 ⟨rfl,oJ,kD⟩;have H6:=H9 (H5.o.turned oJ kD);clear oJ kD CY H5 x0 x1 x2 x3 x4 x5 x6;have HI6:=H9 (Vh.o w6 (H6.o.pow Bn.o));go_wp2_with fail
           refine HI6.o.mono ?_;rintro e w7 ⟨rfl,hw7⟩;have H7:=H9 (H6.o.stay aQ hw7);clear hw7 HI6 Vh H6;have oV:=H9 (dL Tu.UC (Tu.fD++db) w7);unfold Tu.UC Tu.fD at oV;go_wp2_with fail
           refine oV.o.mono ?_;rintro e w8 ⟨rfl,hw8⟩;have H8:=H9 ((H7.o.stay aQ hw8).stay aQ ((Below.refl _ w8).alloc (Nat.le_refl _) (.cells #[.string Tu.UC,.string (Tu.fD++db)] 111)));have uG:=H9 (dD 201 201 rfl [(Tu.UC,Tu.fD++db)] (some ⟨w8.heap.size,0,none⟩) 1 1 _ (cu.made w8 #[.string Tu.UC,.string (Tu.fD++db)] 1 111 (0,0)) rfl (by decide));unfold Tu.UC Tu.fD at uG H8;clear hw8 oV H7;go_wp2_with fail
           refine uG.o.mono ?_;rintro e w9 ⟨cB,aL,n9,rfl,eU,dH,iX⟩;obtain⟨⟨z0,z1,z2,y0,y1,y2⟩,HE⟩:=H8.o.ends aQ (i:=1) rfl (b:=w.heap.size+1) (by first | rfl | omega) (st:=201) (fV:=201) rfl eU (Nat.le_trans (Nat.le_add_right _ _) H8.o.sz) dH iX;clear eU dH iX;go_wp2;generalize (((w9.setCell ⟨w.heap.size+1,0,none⟩ (.int .i64 201)).setCell ⟨w.heap.size+1,1,none⟩ (.slice cB n9 aL)).setCell ⟨w.heap.size+1,2,none⟩ (.slice none 0 0))=wf at *;obtain⟨q0,q1,q2,q3⟩:=HE.o;refine bodyPost_ret (v:=.agg #[.int .i64 201,.slice cB n9 aL,.slice none 0 0]) (by simp[results,results88,go_sem,q0,q1,q2]) rfl ?_;rw[HD.o];exact fK.of q3
         . rw[if_pos hca] at HD;have hsa:=CZ.o hca;subst hsa;have VH:=H9 (lI ca hca w5);clear hca CZ;generalize Sr.wZ sa ca=nn at *;go_wp2_with fail
           refine(VH.o).mono ?_;rintro e w9 hG;obtain⟨HE,cB,aL,n9,he⟩:=H5.o.fell hG;unfold aX at he;subst he;clear hG;go_wp2;exact⟨rfl,by rw[HD.o];exact HE.o⟩
end
section
variable {g:Nat} {m t:ByteArray} {mi ln:Int} {l:List (ByteArray×ByteArray)} {fo:Option Addr} {ak nf:Nat} {bo:Option Addr} {aj nb:Nat} {w w0:World} {S:Nat->Prop} {s:Sr.Sh}
theorem bP.pw {O:Tx}{S':Nat->Prop}{bs:List Obj}{W:World}(h:bP O S w g bs s S' W)(p:oN w0 w S):oN w0 W S' :=
 ⟨p.pow, p.nR.trans (h.tu.below (fun k e => p.far k e.1) p.nR.size), fun k e => by
  have hz:=p.nR.size;rcases h.ap k e with h2 | h2
  . exact p.far k h2.1
  . omega⟩
theorem Ir (p:oN w0 w S)(h:aN w S g s)(ok:Sr.Ok s)(hF:jI w l fo ak nf)(body:List UInt8)(hb:body.length=nb)(hB:aU w bo aj body)(hnb:nb<=100000)(ht:t.size<=100000):
 Calls prog 51 #[.agg #[.pointer (some ⟨g,0,none⟩),.string m,.string t,.int .i64 mi,.slice fo nf ak,.int .i64 ln,.slice bo nb aj]] w fun e w'=>fK S w g (Tu.aO s m t l body) e w':=by
 have T2:bP aN S w g [.cells #[.pointer (some ⟨g,0,none⟩),.string m,.string t,.int .i64 mi,.slice fo nf ak,.int .i64 ln,.slice bo nb aj] 123 (0,0),.cells #[.int .i64 0,.slice none 0 0,.slice none 0 0] 88 (0,0)] s (fun k=>S k∧k<w.heap.size) ((w.alloc (.cells #[.pointer (some ⟨g,0,none⟩),.string m,.string t,.int .i64 mi,.slice fo nf ak,.int .i64 ln,.slice bo nb aj] 123)).alloc (.cells #[.int .i64 0,.slice none 0 0,.slice none 0 0] 88)):=JQ h _;have HB2:Hid (Below w.heap.size w ((w.alloc (.cells #[.pointer (some ⟨g,0,none⟩),.string m,.string t,.int .i64 mi,.slice fo nf ak,.int .i64 ln,.slice bo nb aj] 123)).alloc (.cells #[.int .i64 0,.slice none 0 0,.slice none 0 0] 88))):=then_ ((Below.refl _ w).alloc (Nat.le_refl _) _) ((Below.refl _ _).alloc (Nat.le_refl _) _);have HC:Hid (∀W s' S',bP aN S w g [.cells #[.pointer (some ⟨g,0,none⟩),.string m,.string t,.int .i64 mi,.slice fo nf ak,.int .i64 ln,.slice bo nb aj] 123 (0,0),.cells #[.int .i64 0,.slice none 0 0,.slice none 0 0] 88 (0,0)] s' S' W->W.cell? ⟨w.heap.size,0,none⟩=some (.pointer (some ⟨g,0,none⟩))∧W.cell? ⟨w.heap.size,1,none⟩=some (.string m)∧W.cell? ⟨w.heap.size,2,none⟩=some (.string t)∧W.cell? ⟨w.heap.size,3,none⟩=some (.int .i64 mi)∧W.cell? ⟨w.heap.size,4,none⟩=some (.slice fo nf ak)∧W.cell? ⟨w.heap.size,5,none⟩=some (.int .i64 ln)∧W.cell? ⟨w.heap.size,6,none⟩=some (.slice bo nb aj)):=fun W s' S' hW=>hW.ex;obtain⟨x0,x1,x2,x3,x4,x5,x6⟩:=HC.o _ _ _ T2;have H2:=H9 T2;have HF:=H9 hF;have lg:=H9 ok;have Bn:=H9 p;have yJ:=H9 hB;have Nf:=H9 hb
 clear T2 hF ok p h hB hb;obtain⟨R,hR⟩:∃R,R=Tu.aO s m t l body:=⟨_,rfl⟩;rw[<-hR];unfold Tu.aO at hR;have HD:=H9 hR;clear hR;obtain⟨bf,hbf⟩:∃b,(t.toList==([47,102,105,108,101,115]:List UInt8))=b:=⟨_,rfl⟩;have eF:t=Tu.lS<->bf=true:=by rw[<-hbf];exact Tu.QT t Tu.lS _ rfl
 obtain⟨bo_,aaC⟩:∃b,(m.toList==([79,80,84,73,79,78,83]:List UInt8))=b:=⟨_,rfl⟩;have eO:m=Tu.Uz<->bo_=true:=by rw[<-aaC];exact Tu.QT m Tu.Uz _ rfl
 go_enter func51,ntmps51;cases bf with
 | true =>
   have X7:=H9 (eF.2 rfl);cases bo_ with
   | true =>
     rw[if_pos ⟨eF.2 rfl,eO.2 rfl⟩] at HD;have HOp:Hid (Calls prog 84 #[] ((w.alloc (.cells #[.pointer (some ⟨g,0,none⟩),.string m,.string t,.int .i64 mi,.slice fo nf ak,.int .i64 ln,.slice bo nb aj] 123)).alloc (.cells #[.int .i64 0,.slice none 0 0,.slice none 0 0] 88)) fun e w'=>∃(ao:Option Addr) (cap k:Nat),e=.returned (.agg #[.int .i64 204,.slice ao k cap,.slice none 0 0])∧(Tu.said 204 [(Tu.qd,Tu.cO),(Tu.NK,Tu.nX),(Tu.NM,Tu.NN)]).2.length=k∧aC w' ((w.alloc (.cells #[.pointer (some ⟨g,0,none⟩),.string m,.string t,.int .i64 mi,.slice fo nf ak,.int .i64 ln,.slice bo nb aj] 123)).alloc (.cells #[.int .i64 0,.slice none 0 0,.slice none 0 0] 88)).heap.size 111 2 ao cap k (aB (Tu.said 204 [(Tu.qd,Tu.cO),(Tu.NK,Tu.nX),(Tu.NM,Tu.NN)]).2)∧Below ((w.alloc (.cells #[.pointer (some ⟨g,0,none⟩),.string m,.string t,.int .i64 mi,.slice fo nf ak,.int .i64 ln,.slice bo nb aj] 123)).alloc (.cells #[.int .i64 0,.slice none 0 0,.slice none 0 0] 88)).heap.size ((w.alloc (.cells #[.pointer (some ⟨g,0,none⟩),.string m,.string t,.int .i64 mi,.slice fo nf ak,.int .i64 ln,.slice bo nb aj] 123)).alloc (.cells #[.int .i64 0,.slice none 0 0,.slice none 0 0] 88)) w'):=CF _ (H2.o.pow Bn.o);clear eF eO;go_wp2_with fail
     refine HOp.o.mono ?_;rintro e w9 ⟨cB,aL,n9,rfl,eU,dH,iX⟩;obtain⟨⟨z0,z1,z2,y0,y1,y2⟩,HE⟩:=H2.o.ends aQ (i:=1) rfl (b:=w.heap.size+1) (by first | rfl | omega) (st:=204) (fV:=204) rfl eU (Nat.le_trans (Nat.le_add_right _ _) H2.o.sz) dH iX;clear eU dH iX;go_wp2;generalize (((w9.setCell ⟨w.heap.size+1,0,none⟩ (.int .i64 204)).setCell ⟨w.heap.size+1,1,none⟩ (.slice cB n9 aL)).setCell ⟨w.heap.size+1,2,none⟩ (.slice none 0 0))=wf at *;obtain⟨q0,q1,q2,q3⟩:=HE.o;refine bodyPost_ret (v:=.agg #[.int .i64 204,.slice cB n9 aL,.slice none 0 0]) (by simp[results,results51,go_sem,q0,q1,q2]) rfl ?_;rw[HD.o];exact fK.of q3
   | false =>
     rw[if_neg (fun e=>by have:=eO.1 e.2;cases this)] at HD;clear eF eO;have vG:=HF.o.val Tu.Rf;generalize JZ:Tu.one (Tu.vals Tu.Rf l)=rr at *;obtain⟨vr,cr⟩:=rr;simp only at vG HD;by_cases J2:cr=9
     . subst J2;rw[if_pos rfl] at HD;have HT:=H9 (kQ (g:=g) (m:=m) (t:=t) (mi:=mi) (ln:=ln) (bo:=bo) (aj:=aj) (nb:=nb) Tu.tN (by decide) (HF.o.stay HB2.o) (by rw[Tu.mD];exact JZ));unfold Tu.tN at HT;clear JZ vG;go_wp2_with fail
       refine(HT.o).mono ?_;rintro e w9 hG;obtain⟨HE,cB,aL,n9,he⟩:=H2.o.fell hG;unfold aX at he;subst he;clear hG;go_wp2;exact⟨rfl,by rw[HD.o];exact HE.o⟩
     rw[if_neg J2] at HD;have HT:=H9 (jh (g:=g) (m:=m) (t:=t) (mi:=mi) (ln:=ln) (bo:=bo) (aj:=aj) (nb:=nb) Tu.tN (by decide) (HF.o.stay HB2.o) (by rw[Tu.mD];exact JZ) J2);unfold Tu.tN at HT;clear JZ vG J2;generalize decide (cr=0)=cb at *;obtain⟨bv,hbv⟩:∃b,((⟨vr.toArray⟩:ByteArray).toList==([49,46,48,46,48]:List UInt8))=b:=⟨_,rfl⟩;have eV:vr=Tu.cO.data.toList<->bv=true:=by rw[<-hbv];exact Tu.YT vr _
     generalize (⟨vr.toArray⟩:ByteArray)=vb at *;go_wp2_with fail
     refine(HT.o).mono ?_;rintro e w3 ⟨rfl,hw⟩;have HB3:=H9 (then_ HB2.o hw);have H3:=H9 (H2.o.stay aQ hw);clear hw H2 HB2 x0 x1 x2 x3 x4 x5 x6;obtain⟨x0,x1,x2,x3,x4,x5,x6⟩:=HC.o _ _ _ H3.o;clear HT;have oV:=H9 (dL Tu.qd Tu.cO w3);unfold Tu.qd Tu.cO at oV;go_wp2_with fail
     refine oV.o.mono ?_;rintro e w4 ⟨rfl,hw⟩;have hba:=(Below.refl _ w4).alloc (Nat.le_refl _) (.cells #[.string Tu.qd,.string Tu.cO] 111);have H4:=H9 ((H3.o.stay aQ hw).stay aQ hba);have ig:=H9 (then_ (then_ HB3.o hw) hba);have lY:=H9 (su 412 412 rfl [(Tu.qd,Tu.cO)] (some ⟨w4.heap.size,0,none⟩) 1 1 _ (cu.made w4 #[.string Tu.qd,.string Tu.cO] 1 111 (0,0)) rfl (by decide));clear hw hba oV H3 HB3 x0 x1 x2 x3 x4 x5 x6;cases bv with
     | false =>
       rw[if_pos (fun e=>by have:=eV.1 e;cases this)] at HD;unfold Tu.qd Tu.cO at lY H4;go_wp2_with fail
       refine(lY.o).mono ?_;rintro e w9 hG;obtain⟨HE,cB,aL,n9,he⟩:=H4.o.fell hG;unfold aX at he;subst he;clear hG;go_wp2;exact⟨rfl,by rw[HD.o];exact HE.o⟩
     | true =>
     rw[if_neg (fun e=>e (eV.2 rfl))] at HD;clear eV lY;obtain⟨x0,x1,x2,x3,x4,x5,x6⟩:=HC.o _ _ _ H4.o;unfold Tu.qd Tu.cO at x0 x1 x2 x3 x4 x5 x6 H4 ig;go_wp2_with fail
     refine(aW 412 _ _ _ _).mono ?_;rintro e wq ⟨rfl,hw⟩;rw[hw];clear hw;generalize (w4.alloc (.cells #[.string ⟨#[84,117,115,45,86,101,114,115,105,111,110]⟩,.string ⟨#[49,46,48,46,48]⟩] 111))=w5 at *;rw[if_pos X7.o] at HD;have Ni:=H9 (Fu (g:=g) (m:=m) (t:=t) (mi:=mi) (ln:=ln) (bo:=bo) (aj:=aj) (nb:=nb) (H4.o.pw Bn.o) H4.o.sh lg.o (HF.o.stay ig.o));generalize Tu.post s m l=r9 at *;obtain⟨sr,st,lr⟩:=r9;go_wp2_with fail
     refine(Ni.o).mono ?_;rintro e w9 hE;cases hE with
     | @gave cB aL n9 _ eU dH dV kZ =>
       have HE:=H9 (H4.o.EX eU dH dV kZ);unfold aX at HE ⊢;clear eU dH dV kZ;go_wp2;exact⟨rfl,by rw[HD.o];exact HE.o⟩
     | @ret cB aL n9 _ eU dH dV kZ =>
       have za:=H4.o.did dV kZ;replace dH:=dH.mono (Nat.le_trans (Nat.le_add_right _ _) H4.o.sz);have iX:=Below.refl w9.heap.size w9;obtain⟨⟨z0,z1,z2,y0,y1,y2⟩,HE⟩:=za.ends aQ (i:=1) rfl (b:=w.heap.size+1) (by first | rfl | omega) (st:=st) (fV:=(st:Int)) rfl eU (Nat.le_refl _) dH iX;clear eU dH iX dV kZ za;go_wp2;generalize (((w9.setCell ⟨w.heap.size+1,0,none⟩ (.int .i64 (st:Int))).setCell ⟨w.heap.size+1,1,none⟩ (.slice cB n9 aL)).setCell ⟨w.heap.size+1,2,none⟩ (.slice none 0 0))=wf at *;obtain⟨q0,q1,q2,q3⟩:=HE.o;refine bodyPost_ret (v:=.agg #[.int .i64 (st:Int),.slice cB n9 aL,.slice none 0 0]) (by simp[results,results51,go_sem,q0,q1,q2]) rfl ?_;rw[HD.o];exact fK.of q3
 | false =>
   have X7:Hid (¬t=Tu.lS):=fun e=>by have:=eF.1 e;cases this
   rw[if_neg (fun e=>X7.o e.1)] at HD;clear eF eO;cases bo_ with
   | true =>
     have vG:=HF.o.val Tu.Rf;generalize JZ:Tu.one (Tu.vals Tu.Rf l)=rr at *;obtain⟨vr,cr⟩:=rr;simp only at vG HD;by_cases J2:cr=9
     . subst J2;rw[if_pos rfl] at HD;have HT:=H9 (kQ (g:=g) (m:=m) (t:=t) (mi:=mi) (ln:=ln) (bo:=bo) (aj:=aj) (nb:=nb) Tu.tN (by decide) (HF.o.stay HB2.o) (by rw[Tu.mD];exact JZ));unfold Tu.tN at HT;clear JZ vG;go_wp2_with fail
       refine(HT.o).mono ?_;rintro e w9 hG;obtain⟨HE,cB,aL,n9,he⟩:=H2.o.fell hG;unfold aX at he;subst he;clear hG;go_wp2;exact⟨rfl,by rw[HD.o];exact HE.o⟩
     rw[if_neg J2] at HD;have HT:=H9 (jh (g:=g) (m:=m) (t:=t) (mi:=mi) (ln:=ln) (bo:=bo) (aj:=aj) (nb:=nb) Tu.tN (by decide) (HF.o.stay HB2.o) (by rw[Tu.mD];exact JZ) J2);unfold Tu.tN at HT;clear JZ vG J2;generalize decide (cr=0)=cb at *;obtain⟨bv,hbv⟩:∃b,((⟨vr.toArray⟩:ByteArray).toList==([49,46,48,46,48]:List UInt8))=b:=⟨_,rfl⟩;have eV:vr=Tu.cO.data.toList<->bv=true:=by rw[<-hbv];exact Tu.YT vr _
     generalize (⟨vr.toArray⟩:ByteArray)=vb at *;go_wp2_with fail
     refine(HT.o).mono ?_;rintro e w3 ⟨rfl,hw⟩;have HB3:=H9 (then_ HB2.o hw);have H3:=H9 (H2.o.stay aQ hw);clear hw H2 HB2 x0 x1 x2 x3 x4 x5 x6;obtain⟨x0,x1,x2,x3,x4,x5,x6⟩:=HC.o _ _ _ H3.o;clear HT;have oV:=H9 (dL Tu.qd Tu.cO w3);unfold Tu.qd Tu.cO at oV;go_wp2_with fail
     refine oV.o.mono ?_;rintro e w4 ⟨rfl,hw⟩;have hba:=(Below.refl _ w4).alloc (Nat.le_refl _) (.cells #[.string Tu.qd,.string Tu.cO] 111);have H4:=H9 ((H3.o.stay aQ hw).stay aQ hba);have ig:=H9 (then_ (then_ HB3.o hw) hba);have lY:=H9 (su 412 412 rfl [(Tu.qd,Tu.cO)] (some ⟨w4.heap.size,0,none⟩) 1 1 _ (cu.made w4 #[.string Tu.qd,.string Tu.cO] 1 111 (0,0)) rfl (by decide));clear hw hba oV H3 HB3 x0 x1 x2 x3 x4 x5 x6;cases bv with
     | false =>
       rw[if_pos (fun e=>by have:=eV.1 e;cases this)] at HD;unfold Tu.qd Tu.cO at lY H4;go_wp2_with fail
       refine(lY.o).mono ?_;rintro e w9 hG;obtain⟨HE,cB,aL,n9,he⟩:=H4.o.fell hG;unfold aX at he;subst he;clear hG;go_wp2;exact⟨rfl,by rw[HD.o];exact HE.o⟩
     | true =>
     rw[if_neg (fun e=>e (eV.2 rfl))] at HD;clear eV lY;obtain⟨x0,x1,x2,x3,x4,x5,x6⟩:=HC.o _ _ _ H4.o;unfold Tu.qd Tu.cO at x0 x1 x2 x3 x4 x5 x6 H4 ig;go_wp2_with fail
     refine(aW 412 _ _ _ _).mono ?_;rintro e wq ⟨rfl,hw⟩;rw[hw];clear hw;generalize (w4.alloc (.cells #[.string ⟨#[84,117,115,45,86,101,114,115,105,111,110]⟩,.string ⟨#[49,46,48,46,48]⟩] 111))=w5 at *;rw[if_neg X7.o] at HD;obtain⟨Iu,Iw⟩:=vK (g:=g) (m:=m) (t:=t) (mi:=mi) (ln:=ln) (fo:=fo) (ak:=ak) (nf:=nf) (bo:=bo) (aj:=aj) (nb:=nb) H4.o.sh lg.o (H4.o.pow Bn.o) ht;cases Iy:Tu.tQ s.h t with
     | none =>
       rw[Iy] at HD;simp only at HD;have Qg:=H9 (Iu Iy);clear Iu Iw Iy;go_wp2_with fail
       refine(Qg.o).mono ?_;rintro e w9 hG;obtain⟨HE,cB,aL,n9,he⟩:=H4.o.fell hG;unfold aX at he;subst he;clear hG;go_wp2;exact⟨rfl,by rw[HD.o];exact HE.o⟩
     | some u =>
     rw[Iy] at HD;simp only at HD;have Qg:=H9 (Iw u Iy);have hmem:=(Tu.xw Iy).1;have Sz:=lg.o.h.all u hmem;have Nh:=Sz.long;have hs0:=Sz.Ai;have hs1:=Sz.Da
     clear Iu Iw Iy hmem Sz;obtain⟨un,hun⟩:∃un,u.bytes.length=un:=⟨_,rfl⟩;have VI:=H9 hun;rw[hun] at Nh;rw[hun] at Qg;clear hun;go_wp2_with fail
     refine Qg.o.mono ?_;rintro e w6 ⟨uo,bM,rfl,hw⟩;have hba:=(Below.refl _ w6).alloc (Nat.le_refl _) (.cells #[.int .i64 u.id,.int .i64 u.size,.string u.note,.slice uo un bM,.int .i64 u.sent] 101);have H6:=H9 ((H4.o.stay aQ hw).stay aQ hba);have qj:=H9 (then_ (then_ ig.o hw) hba);clear hw hba Qg H4 ig x0 x1 x2 x3 x4 x5 x6;obtain⟨x0,x1,x2,x3,x4,x5,x6⟩:=HC.o _ _ _ H6.o;have v0:(w6.alloc (.cells #[.int .i64 u.id,.int .i64 u.size,.string u.note,.slice uo un bM,.int .i64 u.sent] 101)).cell? ⟨w6.heap.size,0,none⟩=some (.int .i64 u.id):=World.cell?_alloc_mark w6 _ _ _ 0;have v1:(w6.alloc (.cells #[.int .i64 u.id,.int .i64 u.size,.string u.note,.slice uo un bM,.int .i64 u.sent] 101)).cell? ⟨w6.heap.size,1,none⟩=some (.int .i64 u.size):=World.cell?_alloc_mark w6 _ _ _ 1;have v2:(w6.alloc (.cells #[.int .i64 u.id,.int .i64 u.size,.string u.note,.slice uo un bM,.int .i64 u.sent] 101)).cell? ⟨w6.heap.size,2,none⟩=some (.string u.note):=World.cell?_alloc_mark w6 _ _ _ 2;have v3:(w6.alloc (.cells #[.int .i64 u.id,.int .i64 u.size,.string u.note,.slice uo un bM,.int .i64 u.sent] 101)).cell? ⟨w6.heap.size,3,none⟩=some (.slice uo un bM):=World.cell?_alloc_mark w6 _ _ _ 3;have v4:(w6.alloc (.cells #[.int .i64 u.id,.int .i64 u.size,.string u.note,.slice uo un bM,.int .i64 u.sent] 101)).cell? ⟨w6.heap.size,4,none⟩=some (.int .i64 u.sent):=World.cell?_alloc_mark w6 _ _ _ 4;go_upto_region 8 with fail
     generalize (w6.alloc (.cells #[.int .i64 u.id,.int .i64 u.size,.string u.note,.slice uo un bM,.int .i64 u.sent] 101))=w7 at *;generalize w6.heap.size=k6 at *;unfold Tu.KT at HD;obtain⟨bh,hbh⟩:∃b,(m.toList==([72,69,65,68]:List UInt8))=b:=⟨_,rfl⟩;have eH:m=Tu.Dp<->bh=true:=by rw[<-hbh];exact Tu.QT m Tu.Dp _ rfl
     cases bh with
     | true =>
       rw[if_pos (eH.2 rfl)] at HD;have HDs:Hid (Calls prog 90 #[.agg #[.int .i64 u.id,.int .i64 u.size,.string u.note,.slice uo un bM,.int .i64 u.sent]] w7 fun e w'=>∃(ao:Option Addr) (cap k:Nat),e=.returned (.agg #[.int .i64 200,.slice ao k cap,.slice none 0 0])∧(Tu.head u).2.length=k∧aC w' w7.heap.size 111 2 ao cap k (aB (Tu.head u).2)∧Below w7.heap.size w7 w'):=qB u uo un bM VI.o hs0 hs1 Nh w7 (H6.o.pow Bn.o);have Qh:Hid (Tu.head u=(200,(Tu.head u).2)):=by unfold Hid;rfl
       rw[Qh.o] at HD;clear eH Qh;generalize (Tu.head u).2=lh at *;go_wp2_with fail
       refine HDs.o.mono ?_;rintro e w9 ⟨cB,aL,n9,rfl,eU,dH,iX⟩;obtain⟨⟨z0,z1,z2,y0,y1,y2⟩,HE⟩:=H6.o.ends aQ (i:=1) rfl (b:=w.heap.size+1) (by first | rfl | omega) (st:=200) (fV:=200) rfl eU (Nat.le_trans (Nat.le_add_right _ _) H6.o.sz) dH iX;clear eU dH iX;go_wp2;generalize (((w9.setCell ⟨w.heap.size+1,0,none⟩ (.int .i64 200)).setCell ⟨w.heap.size+1,1,none⟩ (.slice cB n9 aL)).setCell ⟨w.heap.size+1,2,none⟩ (.slice none 0 0))=wf at *;obtain⟨q0,q1,q2,q3⟩:=HE.o;refine bodyPost_ret (v:=.agg #[.int .i64 200,.slice cB n9 aL,.slice none 0 0]) (by simp[results,results51,go_sem,q0,q1,q2]) rfl ?_;rw[HD.o];exact fK.of q3
     | false =>
     rw[if_neg (fun e=>by have:=eH.1 e;cases this)] at HD;clear eH;obtain⟨bt,hbt⟩:∃b,(m.toList==([80,65,84,67,72]:List UInt8))=b:=⟨_,rfl⟩;have eT:m=Tu.NI<->bt=true:=by rw[<-hbt];exact Tu.QT m Tu.NI _ rfl
     cases bt with
     | true =>
       rw[if_neg (fun e=>by have:=(eT.2 rfl).symm.trans e;revert this;decide),if_pos (eT.2 rfl)] at HD;have HEx:=H9 (vP (g:=g) (m:=m) (t:=t) (mi:=mi) (ln:=ln) (bo:=bo) (aj:=aj) (nb:=nb) (H6.o.pw Bn.o) H6.o.sh lg.o (HF.o.stay qj.o) body Nf.o (yJ.o.stay qj.o) hnb u uo un bM VI.o Nh hs0);clear eT;generalize Tu.patch s u l body=r9 at *;obtain⟨sr,st,lr⟩:=r9;go_wp2_with fail
       refine(HEx.o).mono ?_;rintro e w9 hE;cases hE with
       | @gave cB aL n9 _ eU dH dV kZ =>
         have HE:=H9 (H6.o.EX eU dH dV kZ);unfold aX at HE ⊢;clear eU dH dV kZ;go_wp2;exact⟨rfl,by rw[HD.o];exact HE.o⟩
       | @ret cB aL n9 _ eU dH dV kZ =>
         have za:=H6.o.did dV kZ;replace dH:=dH.mono (Nat.le_trans (Nat.le_add_right _ _) H6.o.sz);have iX:=Below.refl w9.heap.size w9;obtain⟨⟨z0,z1,z2,y0,y1,y2⟩,HE⟩:=za.ends aQ (i:=1) rfl (b:=w.heap.size+1) (by first | rfl | omega) (st:=st) (fV:=(st:Int)) rfl eU (Nat.le_refl _) dH iX;clear eU dH iX dV kZ za;go_wp2;generalize (((w9.setCell ⟨w.heap.size+1,0,none⟩ (.int .i64 (st:Int))).setCell ⟨w.heap.size+1,1,none⟩ (.slice cB n9 aL)).setCell ⟨w.heap.size+1,2,none⟩ (.slice none 0 0))=wf at *;obtain⟨q0,q1,q2,q3⟩:=HE.o;refine bodyPost_ret (v:=.agg #[.int .i64 (st:Int),.slice cB n9 aL,.slice none 0 0]) (by simp[results,results51,go_sem,q0,q1,q2]) rfl ?_;rw[HD.o];exact fK.of q3
     | false =>
     obtain⟨bd,hbd⟩:∃b,(m.toList==([68,69,76,69,84,69]:List UInt8))=b:=⟨_,rfl⟩;have eD:m=Tu.NH<->bd=true:=by rw[<-hbd];exact Tu.QT m Tu.NH _ rfl
     cases bd with
     | true =>
       rw[if_pos (eD.2 rfl)] at HD;have VN:=H9 (vO (g:=g) (m:=m) (t:=t) (mi:=mi) (ln:=ln) (fo:=fo) (ak:=ak) (nf:=nf) (bo:=bo) (aj:=aj) (nb:=nb) H6.o.sh lg.o u uo un bM);clear eT eD;generalize (Sr.sync (Sr.drop s u.id).1,Tu.said 204 [])=r9 at *;obtain⟨sr,st,lr⟩:=r9;go_wp2_with fail
       refine(VN.o).mono ?_;rintro e w9 hE;cases hE with
       | @gave cB aL n9 _ eU dH dV kZ =>
         have HE:=H9 (H6.o.EX eU dH dV kZ);unfold aX at HE ⊢;clear eU dH dV kZ;go_wp2;exact⟨rfl,by rw[HD.o];exact HE.o⟩
       | @ret cB aL n9 _ eU dH dV kZ =>
         have za:=H6.o.did dV kZ;replace dH:=dH.mono (Nat.le_trans (Nat.le_add_right _ _) H6.o.sz);have iX:=Below.refl w9.heap.size w9;obtain⟨⟨z0,z1,z2,y0,y1,y2⟩,HE⟩:=za.ends aQ (i:=1) rfl (b:=w.heap.size+1) (by first | rfl | omega) (st:=st) (fV:=(st:Int)) rfl eU (Nat.le_refl _) dH iX;clear eU dH iX dV kZ za;go_wp2;generalize (((w9.setCell ⟨w.heap.size+1,0,none⟩ (.int .i64 (st:Int))).setCell ⟨w.heap.size+1,1,none⟩ (.slice cB n9 aL)).setCell ⟨w.heap.size+1,2,none⟩ (.slice none 0 0))=wf at *;obtain⟨q0,q1,q2,q3⟩:=HE.o;refine bodyPost_ret (v:=.agg #[.int .i64 (st:Int),.slice cB n9 aL,.slice none 0 0]) (by simp[results,results51,go_sem,q0,q1,q2]) rfl ?_;rw[HD.o];exact fK.of q3
     | false =>
     rw[if_neg (fun e=>by have:=eD.1 e;cases this),if_neg (fun e=>by have:=eT.1 e;cases this)] at HD;have uG:=H9 (dD 405 405 rfl [] none 0 0 w7 (cu.nil w7) rfl (by decide));clear eT eD;go_wp2_with fail
     refine uG.o.mono ?_;rintro e w9 ⟨cB,aL,n9,rfl,eU,dH,iX⟩;obtain⟨⟨z0,z1,z2,y0,y1,y2⟩,HE⟩:=H6.o.ends aQ (i:=1) rfl (b:=w.heap.size+1) (by first | rfl | omega) (st:=405) (fV:=405) rfl eU (Nat.le_trans (Nat.le_add_right _ _) H6.o.sz) dH iX;clear eU dH iX;go_wp2;generalize (((w9.setCell ⟨w.heap.size+1,0,none⟩ (.int .i64 405)).setCell ⟨w.heap.size+1,1,none⟩ (.slice cB n9 aL)).setCell ⟨w.heap.size+1,2,none⟩ (.slice none 0 0))=wf at *;obtain⟨q0,q1,q2,q3⟩:=HE.o;refine bodyPost_ret (v:=.agg #[.int .i64 405,.slice cB n9 aL,.slice none 0 0]) (by simp[results,results51,go_sem,q0,q1,q2]) rfl ?_;rw[HD.o];exact fK.of q3
   | false =>
     have vG:=HF.o.val Tu.Rf;generalize JZ:Tu.one (Tu.vals Tu.Rf l)=rr at *;obtain⟨vr,cr⟩:=rr;simp only at vG HD;by_cases J2:cr=9
     . subst J2;rw[if_pos rfl] at HD;have HT:=H9 (kQ (g:=g) (m:=m) (t:=t) (mi:=mi) (ln:=ln) (bo:=bo) (aj:=aj) (nb:=nb) Tu.tN (by decide) (HF.o.stay HB2.o) (by rw[Tu.mD];exact JZ));unfold Tu.tN at HT;clear JZ vG;go_wp2_with fail
       refine(HT.o).mono ?_;rintro e w9 hG;obtain⟨HE,cB,aL,n9,he⟩:=H2.o.fell hG;unfold aX at he;subst he;clear hG;go_wp2;exact⟨rfl,by rw[HD.o];exact HE.o⟩
     rw[if_neg J2] at HD;have HT:=H9 (jh (g:=g) (m:=m) (t:=t) (mi:=mi) (ln:=ln) (bo:=bo) (aj:=aj) (nb:=nb) Tu.tN (by decide) (HF.o.stay HB2.o) (by rw[Tu.mD];exact JZ) J2);unfold Tu.tN at HT;clear JZ vG J2;generalize decide (cr=0)=cb at *;obtain⟨bv,hbv⟩:∃b,((⟨vr.toArray⟩:ByteArray).toList==([49,46,48,46,48]:List UInt8))=b:=⟨_,rfl⟩;have eV:vr=Tu.cO.data.toList<->bv=true:=by rw[<-hbv];exact Tu.YT vr _
     generalize (⟨vr.toArray⟩:ByteArray)=vb at *;go_wp2_with fail
     refine(HT.o).mono ?_;rintro e w3 ⟨rfl,hw⟩;have HB3:=H9 (then_ HB2.o hw);have H3:=H9 (H2.o.stay aQ hw);clear hw H2 HB2 x0 x1 x2 x3 x4 x5 x6;obtain⟨x0,x1,x2,x3,x4,x5,x6⟩:=HC.o _ _ _ H3.o;clear HT;have oV:=H9 (dL Tu.qd Tu.cO w3);unfold Tu.qd Tu.cO at oV;go_wp2_with fail
     refine oV.o.mono ?_;rintro e w4 ⟨rfl,hw⟩;have hba:=(Below.refl _ w4).alloc (Nat.le_refl _) (.cells #[.string Tu.qd,.string Tu.cO] 111);have H4:=H9 ((H3.o.stay aQ hw).stay aQ hba);have ig:=H9 (then_ (then_ HB3.o hw) hba);have lY:=H9 (su 412 412 rfl [(Tu.qd,Tu.cO)] (some ⟨w4.heap.size,0,none⟩) 1 1 _ (cu.made w4 #[.string Tu.qd,.string Tu.cO] 1 111 (0,0)) rfl (by decide));clear hw hba oV H3 HB3 x0 x1 x2 x3 x4 x5 x6;cases bv with
     | false =>
       rw[if_pos (fun e=>by have:=eV.1 e;cases this)] at HD;unfold Tu.qd Tu.cO at lY H4;go_wp2_with fail
       refine(lY.o).mono ?_;rintro e w9 hG;obtain⟨HE,cB,aL,n9,he⟩:=H4.o.fell hG;unfold aX at he;subst he;clear hG;go_wp2;exact⟨rfl,by rw[HD.o];exact HE.o⟩
     | true =>
     rw[if_neg (fun e=>e (eV.2 rfl))] at HD;clear eV lY;obtain⟨x0,x1,x2,x3,x4,x5,x6⟩:=HC.o _ _ _ H4.o;unfold Tu.qd Tu.cO at x0 x1 x2 x3 x4 x5 x6 H4 ig;go_wp2_with fail
     refine(aW 412 _ _ _ _).mono ?_;rintro e wq ⟨rfl,hw⟩;rw[hw];clear hw;generalize (w4.alloc (.cells #[.string ⟨#[84,117,115,45,86,101,114,115,105,111,110]⟩,.string ⟨#[49,46,48,46,48]⟩] 111))=w5 at *;rw[if_neg X7.o] at HD;obtain⟨Iu,Iw⟩:=vK (g:=g) (m:=m) (t:=t) (mi:=mi) (ln:=ln) (fo:=fo) (ak:=ak) (nf:=nf) (bo:=bo) (aj:=aj) (nb:=nb) H4.o.sh lg.o (H4.o.pow Bn.o) ht;cases Iy:Tu.tQ s.h t with
     | none =>
       rw[Iy] at HD;simp only at HD;have Qg:=H9 (Iu Iy);clear Iu Iw Iy;go_wp2_with fail
       refine(Qg.o).mono ?_;rintro e w9 hG;obtain⟨HE,cB,aL,n9,he⟩:=H4.o.fell hG;unfold aX at he;subst he;clear hG;go_wp2;exact⟨rfl,by rw[HD.o];exact HE.o⟩
     | some u =>
     rw[Iy] at HD;simp only at HD;have Qg:=H9 (Iw u Iy);have hmem:=(Tu.xw Iy).1;have Sz:=lg.o.h.all u hmem;have Nh:=Sz.long;have hs0:=Sz.Ai;have hs1:=Sz.Da
     clear Iu Iw Iy hmem Sz;obtain⟨un,hun⟩:∃un,u.bytes.length=un:=⟨_,rfl⟩;have VI:=H9 hun;rw[hun] at Nh;rw[hun] at Qg;clear hun;go_wp2_with fail
     refine Qg.o.mono ?_;rintro e w6 ⟨uo,bM,rfl,hw⟩;have hba:=(Below.refl _ w6).alloc (Nat.le_refl _) (.cells #[.int .i64 u.id,.int .i64 u.size,.string u.note,.slice uo un bM,.int .i64 u.sent] 101);have H6:=H9 ((H4.o.stay aQ hw).stay aQ hba);have qj:=H9 (then_ (then_ ig.o hw) hba);clear hw hba Qg H4 ig x0 x1 x2 x3 x4 x5 x6;obtain⟨x0,x1,x2,x3,x4,x5,x6⟩:=HC.o _ _ _ H6.o;have v0:(w6.alloc (.cells #[.int .i64 u.id,.int .i64 u.size,.string u.note,.slice uo un bM,.int .i64 u.sent] 101)).cell? ⟨w6.heap.size,0,none⟩=some (.int .i64 u.id):=World.cell?_alloc_mark w6 _ _ _ 0;have v1:(w6.alloc (.cells #[.int .i64 u.id,.int .i64 u.size,.string u.note,.slice uo un bM,.int .i64 u.sent] 101)).cell? ⟨w6.heap.size,1,none⟩=some (.int .i64 u.size):=World.cell?_alloc_mark w6 _ _ _ 1;have v2:(w6.alloc (.cells #[.int .i64 u.id,.int .i64 u.size,.string u.note,.slice uo un bM,.int .i64 u.sent] 101)).cell? ⟨w6.heap.size,2,none⟩=some (.string u.note):=World.cell?_alloc_mark w6 _ _ _ 2;have v3:(w6.alloc (.cells #[.int .i64 u.id,.int .i64 u.size,.string u.note,.slice uo un bM,.int .i64 u.sent] 101)).cell? ⟨w6.heap.size,3,none⟩=some (.slice uo un bM):=World.cell?_alloc_mark w6 _ _ _ 3;have v4:(w6.alloc (.cells #[.int .i64 u.id,.int .i64 u.size,.string u.note,.slice uo un bM,.int .i64 u.sent] 101)).cell? ⟨w6.heap.size,4,none⟩=some (.int .i64 u.sent):=World.cell?_alloc_mark w6 _ _ _ 4;go_upto_region 8 with fail
     generalize (w6.alloc (.cells #[.int .i64 u.id,.int .i64 u.size,.string u.note,.slice uo un bM,.int .i64 u.sent] 101))=w7 at *;generalize w6.heap.size=k6 at *;unfold Tu.KT at HD;obtain⟨bh,hbh⟩:∃b,(m.toList==([72,69,65,68]:List UInt8))=b:=⟨_,rfl⟩;have eH:m=Tu.Dp<->bh=true:=by rw[<-hbh];exact Tu.QT m Tu.Dp _ rfl
     cases bh with
     | true =>
       rw[if_pos (eH.2 rfl)] at HD;have HDs:Hid (Calls prog 90 #[.agg #[.int .i64 u.id,.int .i64 u.size,.string u.note,.slice uo un bM,.int .i64 u.sent]] w7 fun e w'=>∃(ao:Option Addr) (cap k:Nat),e=.returned (.agg #[.int .i64 200,.slice ao k cap,.slice none 0 0])∧(Tu.head u).2.length=k∧aC w' w7.heap.size 111 2 ao cap k (aB (Tu.head u).2)∧Below w7.heap.size w7 w'):=qB u uo un bM VI.o hs0 hs1 Nh w7 (H6.o.pow Bn.o);have Qh:Hid (Tu.head u=(200,(Tu.head u).2)):=by unfold Hid;rfl
       rw[Qh.o] at HD;clear eH Qh;generalize (Tu.head u).2=lh at *;go_wp2_with fail
       refine HDs.o.mono ?_;rintro e w9 ⟨cB,aL,n9,rfl,eU,dH,iX⟩;obtain⟨⟨z0,z1,z2,y0,y1,y2⟩,HE⟩:=H6.o.ends aQ (i:=1) rfl (b:=w.heap.size+1) (by first | rfl | omega) (st:=200) (fV:=200) rfl eU (Nat.le_trans (Nat.le_add_right _ _) H6.o.sz) dH iX;clear eU dH iX;go_wp2;generalize (((w9.setCell ⟨w.heap.size+1,0,none⟩ (.int .i64 200)).setCell ⟨w.heap.size+1,1,none⟩ (.slice cB n9 aL)).setCell ⟨w.heap.size+1,2,none⟩ (.slice none 0 0))=wf at *;obtain⟨q0,q1,q2,q3⟩:=HE.o;refine bodyPost_ret (v:=.agg #[.int .i64 200,.slice cB n9 aL,.slice none 0 0]) (by simp[results,results51,go_sem,q0,q1,q2]) rfl ?_;rw[HD.o];exact fK.of q3
     | false =>
     rw[if_neg (fun e=>by have:=eH.1 e;cases this)] at HD;clear eH;obtain⟨bt,hbt⟩:∃b,(m.toList==([80,65,84,67,72]:List UInt8))=b:=⟨_,rfl⟩;have eT:m=Tu.NI<->bt=true:=by rw[<-hbt];exact Tu.QT m Tu.NI _ rfl
     cases bt with
     | true =>
       rw[if_neg (fun e=>by have:=(eT.2 rfl).symm.trans e;revert this;decide),if_pos (eT.2 rfl)] at HD;have HEx:=H9 (vP (g:=g) (m:=m) (t:=t) (mi:=mi) (ln:=ln) (bo:=bo) (aj:=aj) (nb:=nb) (H6.o.pw Bn.o) H6.o.sh lg.o (HF.o.stay qj.o) body Nf.o (yJ.o.stay qj.o) hnb u uo un bM VI.o Nh hs0);clear eT;generalize Tu.patch s u l body=r9 at *;obtain⟨sr,st,lr⟩:=r9;go_wp2_with fail
       refine(HEx.o).mono ?_;rintro e w9 hE;cases hE with
       | @gave cB aL n9 _ eU dH dV kZ =>
         have HE:=H9 (H6.o.EX eU dH dV kZ);unfold aX at HE ⊢;clear eU dH dV kZ;go_wp2;exact⟨rfl,by rw[HD.o];exact HE.o⟩
       | @ret cB aL n9 _ eU dH dV kZ =>
         have za:=H6.o.did dV kZ;replace dH:=dH.mono (Nat.le_trans (Nat.le_add_right _ _) H6.o.sz);have iX:=Below.refl w9.heap.size w9;obtain⟨⟨z0,z1,z2,y0,y1,y2⟩,HE⟩:=za.ends aQ (i:=1) rfl (b:=w.heap.size+1) (by first | rfl | omega) (st:=st) (fV:=(st:Int)) rfl eU (Nat.le_refl _) dH iX;clear eU dH iX dV kZ za;go_wp2;generalize (((w9.setCell ⟨w.heap.size+1,0,none⟩ (.int .i64 (st:Int))).setCell ⟨w.heap.size+1,1,none⟩ (.slice cB n9 aL)).setCell ⟨w.heap.size+1,2,none⟩ (.slice none 0 0))=wf at *;obtain⟨q0,q1,q2,q3⟩:=HE.o;refine bodyPost_ret (v:=.agg #[.int .i64 (st:Int),.slice cB n9 aL,.slice none 0 0]) (by simp[results,results51,go_sem,q0,q1,q2]) rfl ?_;rw[HD.o];exact fK.of q3
     | false =>
     obtain⟨bd,hbd⟩:∃b,(m.toList==([68,69,76,69,84,69]:List UInt8))=b:=⟨_,rfl⟩;have eD:m=Tu.NH<->bd=true:=by rw[<-hbd];exact Tu.QT m Tu.NH _ rfl
     cases bd with
     | true =>
       rw[if_pos (eD.2 rfl)] at HD;have VN:=H9 (vO (g:=g) (m:=m) (t:=t) (mi:=mi) (ln:=ln) (fo:=fo) (ak:=ak) (nf:=nf) (bo:=bo) (aj:=aj) (nb:=nb) H6.o.sh lg.o u uo un bM);clear eT eD;generalize (Sr.sync (Sr.drop s u.id).1,Tu.said 204 [])=r9 at *;obtain⟨sr,st,lr⟩:=r9;go_wp2_with fail
       refine(VN.o).mono ?_;rintro e w9 hE;cases hE with
       | @gave cB aL n9 _ eU dH dV kZ =>
         have HE:=H9 (H6.o.EX eU dH dV kZ);unfold aX at HE ⊢;clear eU dH dV kZ;go_wp2;exact⟨rfl,by rw[HD.o];exact HE.o⟩
       | @ret cB aL n9 _ eU dH dV kZ =>
         have za:=H6.o.did dV kZ;replace dH:=dH.mono (Nat.le_trans (Nat.le_add_right _ _) H6.o.sz);have iX:=Below.refl w9.heap.size w9;obtain⟨⟨z0,z1,z2,y0,y1,y2⟩,HE⟩:=za.ends aQ (i:=1) rfl (b:=w.heap.size+1) (by first | rfl | omega) (st:=st) (fV:=(st:Int)) rfl eU (Nat.le_refl _) dH iX;clear eU dH iX dV kZ za;go_wp2;generalize (((w9.setCell ⟨w.heap.size+1,0,none⟩ (.int .i64 (st:Int))).setCell ⟨w.heap.size+1,1,none⟩ (.slice cB n9 aL)).setCell ⟨w.heap.size+1,2,none⟩ (.slice none 0 0))=wf at *;obtain⟨q0,q1,q2,q3⟩:=HE.o;refine bodyPost_ret (v:=.agg #[.int .i64 (st:Int),.slice cB n9 aL,.slice none 0 0]) (by simp[results,results51,go_sem,q0,q1,q2]) rfl ?_;rw[HD.o];exact fK.of q3
     | false =>
     rw[if_neg (fun e=>by have:=eD.1 e;cases this),if_neg (fun e=>by have:=eT.1 e;cases this)] at HD;have uG:=H9 (dD 405 405 rfl [] none 0 0 w7 (cu.nil w7) rfl (by decide));clear eT eD;go_wp2_with fail
     refine uG.o.mono ?_;rintro e w9 ⟨cB,aL,n9,rfl,eU,dH,iX⟩;obtain⟨⟨z0,z1,z2,y0,y1,y2⟩,HE⟩:=H6.o.ends aQ (i:=1) rfl (b:=w.heap.size+1) (by first | rfl | omega) (st:=405) (fV:=405) rfl eU (Nat.le_trans (Nat.le_add_right _ _) H6.o.sz) dH iX;clear eU dH iX;go_wp2;generalize (((w9.setCell ⟨w.heap.size+1,0,none⟩ (.int .i64 405)).setCell ⟨w.heap.size+1,1,none⟩ (.slice cB n9 aL)).setCell ⟨w.heap.size+1,2,none⟩ (.slice none 0 0))=wf at *;obtain⟨q0,q1,q2,q3⟩:=HE.o;refine bodyPost_ret (v:=.agg #[.int .i64 405,.slice cB n9 aL,.slice none 0 0]) (by simp[results,results51,go_sem,q0,q1,q2]) rfl ?_;rw[HD.o];exact fK.of q3
end
theorem uH (b:Nat)(st:Int)(ao:Option Addr)(n cap:Nat)(older:List PanicEntry)(w:World)(hr:w.cell? ⟨b,0,none⟩=some (.int .i64 0)∧w.cell? ⟨b,1,none⟩=some (.slice none 0 0)∧w.cell? ⟨b,2,none⟩=some (.slice none 0 0)∧w.frozen? ⟨b,0,none⟩=false∧w.frozen? ⟨b,1,none⟩=false∧w.frozen? ⟨b,2,none⟩=false):
 CallsD prog 83 #[.pointer (some ⟨b,0,none⟩)] (.panicking ({ v:=.iface 157 (.agg #[.int .i64 st,.slice ao n cap,.slice none 0 0]),recovered:=false }::older)) w fun e u' w' =>
  e=.returned (.tuple #[])∧u'=.panicking ({ v:=.iface 157 (.agg #[.int .i64 st,.slice ao n cap,.slice none 0 0]),recovered:=true }::older)∧w'=(((w.setCell ⟨b,0,none⟩ (.int .i64 st)).setCell ⟨b,1,none⟩ (.slice ao n cap)).setCell ⟨b,2,none⟩ (.slice none 0 0)):=by
 obtain⟨c0,c1,c2,f0,f1,f2⟩:=hr;refine callsD_of_wpS func83 rfl fun c₀ cs hu=>?_;apply wpS_seq;apply wpS_region;simp[wpOpsS,go_sem,recoverD,hu,ntmps83,Exit.thenS];change Code.wpS _ _ _ { tmps:=#[.pointer (some ⟨b,0,none⟩),.iface 157 (.agg #[.int .i64 st,.slice ao n cap,.slice none 0 0]),.iface 157 (.agg #[.int .i64 st,.slice ao n cap,.slice none 0 0]),undef,undef,undef,undef,undef],defers:=[] } _ _;refine wpS_of_wp ?_;have hta:∀w:World,(Instr.typeAssert (.iface 157 (.agg #[.int .i64 st,.slice ao n cap,.slice none 0 0])) 20 157 false).run prog w=.ok (.agg #[.int .i64 st,.slice ao n cap,.slice none 0 0]) w:=fun _=>by kernel_rfl
 have hfl:∀w:World,(Instr.field 157 (.agg #[.int .i64 st,.slice ao n cap,.slice none 0 0]) 0).run prog w=.ok (.agg #[.int .i64 st,.slice ao n cap,.slice none 0 0]) w:=fun _=>by kernel_rfl
 go_wp2;simp[bodyPostS,results,results83]
theorem Fv (b:Nat)(w:World):
 CallsD prog 83 #[.pointer (some ⟨b,0,none⟩)] .returning w fun e u' w'=>e=.returned (.tuple #[])∧u'=.returning∧w'=w:=by
 refine callsD_of_wpS func83 rfl fun c₀ cs hu=>?_;apply wpS_seq;apply wpS_region;simp[wpOpsS,go_sem,recoverD,hu,ntmps83,Exit.thenS];change Code.wpS _ _ _ { tmps:=#[.pointer (some ⟨b,0,none⟩),.nilIface,.nilIface,undef,undef,undef,undef,undef],defers:=[] } _ _;refine wpS_of_wp ?_;go_wp2;cases c₀;simp_all [bodyPostS,results,results83]
section
variable {g:Nat} {m t:ByteArray} {mi ln:Int} {l:List (ByteArray×ByteArray)} {fo:Option Addr} {ak nf:Nat} {bo:Option Addr} {aj nb:Nat} {w w0:World} {S:Nat->Prop} {s:Sr.Sh}
theorem aaG (h:aN w S g s):bP aN S w g [.cells #[.int .i64 0,.slice none 0 0,.slice none 0 0] 88 (0,0)] s (fun k=>S k∧k<w.heap.size) (w.alloc (.cells #[.int .i64 0,.slice none 0 0,.slice none 0 0] 88)):=(bP.start aQ h).box aQ rfl (fun _ e=>e.2) _
theorem Fw (p:oN w0 w S)(h:aN w S g s)(ok:Sr.Ok s)(hF:jI w l fo ak nf)(body:List UInt8)(hb:body.length=nb)(hB:aU w bo aj body)(hnb:nb<=100000)(ht:t.size<=100000):
 Calls prog 50 #[.func (.func 51) #[.agg #[.pointer (some ⟨g,0,none⟩),.string m,.string t,.int .i64 mi,.slice fo nf ak,.int .i64 ln,.slice bo nb aj]] #[]] w fun e w'=>sj aN S w g (Tu.aO s m t l body) e w':=by
 have M7:∀(fn:Fn) (first cap:Array Value) (w:World),(Instr.makeFunc fn first cap).run prog w=.ok (.func fn first cap) w:=fun _ _ _ _=>rfl;have T1:=aaG h;have hb1:=(Below.refl _ w).alloc (Nat.le_refl _) (.cells #[.int .i64 0,.slice none 0 0,.slice none 0 0] 88);have Zi:=H9 (Ir (m:=m) (t:=t) (mi:=mi) (ln:=ln) (bo:=bo) (aj:=aj) (nb:=nb) (T1.pw p) T1.sh ok (hF.stay hb1) body hb (hB.stay hb1) hnb ht);have H1:=H9 T1;clear T1 hb1 p h ok hF hb hB;obtain⟨R,hR⟩:∃R,R=Tu.aO s m t l body:=⟨_,rfl⟩;rw[<-hR] at Zi ⊢;clear hR;obtain⟨sr,st,lr⟩:=R;go_enter_defers func50,ntmps50
 go_wp2_with fail
 refine Zi.o.mono ?_;rintro e w9 hE;cases hE with
 | @gave cB aL n9 _ eU dH dV kZ =>
   have za:=H1.o.did dV kZ;replace dH:=dH.mono (Nat.le_trans (Nat.le_add_right _ _) H1.o.sz);obtain⟨hz,HE⟩:=za.ends aQ (i:=0) rfl (b:=w.heap.size) (by first | rfl | omega) (st:=st) (fV:=(st:Int)) rfl eU (Nat.le_refl _) dH (Below.refl w9.heap.size w9);have HZ:=H9 hz;clear eU dH dV kZ za hz;unfold aX;go_wp2;refine leaves_cons (f:=83) (args:=#[.pointer (some ⟨w.heap.size,0,none⟩)]) (by simp) (by simp[go_sem]) ?_;refine(uH w.heap.size st cB n9 aL [] w9 HZ.o).mono ?_;rintro e u' w'' ⟨rfl,rfl,hw⟩;rw[hw];clear hw HZ;generalize (((w9.setCell ⟨w.heap.size,0,none⟩ (.int .i64 (st:Int))).setCell ⟨w.heap.size,1,none⟩ (.slice cB n9 aL)).setCell ⟨w.heap.size,2,none⟩ (.slice none 0 0))=wf at *;obtain⟨q0,q1,q2,q3⟩:=HE.o;simp[Leaves,settle,results,results50,go_sem,q0,q1,q2];exact q3
 | @ret cB aL n9 _ eU dH dV kZ =>
   have za:=H1.o.did dV kZ;replace dH:=dH.mono (Nat.le_trans (Nat.le_add_right _ _) H1.o.sz);obtain⟨⟨z0,z1,z2,y0,y1,y2⟩,HE⟩:=za.ends aQ (i:=0) rfl (b:=w.heap.size) (by first | rfl | omega) (st:=st) (fV:=(st:Int)) rfl eU (Nat.le_refl _) dH (Below.refl w9.heap.size w9);clear eU dH dV kZ za;go_wp2;refine leaves_cons (f:=83) (args:=#[.pointer (some ⟨w.heap.size,0,none⟩)]) (by simp) (by simp[go_sem]) ?_;refine(Fv w.heap.size _).mono ?_;rintro e u' w'' ⟨rfl,rfl,hw⟩;rw[hw];clear hw;generalize (((w9.setCell ⟨w.heap.size,0,none⟩ (.int .i64 (st:Int))).setCell ⟨w.heap.size,1,none⟩ (.slice cB n9 aL)).setCell ⟨w.heap.size,2,none⟩ (.slice none 0 0))=wf at *;obtain⟨q0,q1,q2,q3⟩:=HE.o;simp[Leaves,settle,results,results50,go_sem,q0,q1,q2];exact q3
theorem SA (p:oN w0 w S)(h:aN w S g s)(ok:Sr.Ok s)(hF:jI w l fo ak nf)(body:List UInt8)(hb:body.length=nb)(hB:aU w bo aj body)(hnb:nb<=100000)(ht:t.size<=100000):
 Calls prog 30 #[.pointer (some ⟨g,0,none⟩),.agg #[.string m,.string t,.int .i64 mi,.slice fo nf ak,.int .i64 ln],.slice bo nb aj] w fun e w'=>sj aN S w g (Tu.aO s m t l body) e w':=by
 have M7:∀(fn:Fn) (first cap:Array Value) (w:World),(Instr.makeFunc fn first cap).run prog w=.ok (.func fn first cap) w:=fun _ _ _ _=>rfl;have hz1:(w.alloc (.cells #[.string m,.string t,.int .i64 mi,.slice fo nf ak,.int .i64 ln] 68)).heap.size=w.heap.size+1:=World.size_alloc ..;have hz2:((w.alloc (.cells #[.string m,.string t,.int .i64 mi,.slice fo nf ak,.int .i64 ln] 68)).alloc (.cells #[.int .i64 0,.slice none 0 0,.slice none 0 0] 88)).heap.size=w.heap.size+2:=by rw[World.size_alloc,hz1]
 have T3:bP aN S w g [.cells #[.string m,.string t,.int .i64 mi,.slice fo nf ak,.int .i64 ln] 68 (0,0),.cells #[.int .i64 0,.slice none 0 0,.slice none 0 0] 88 (0,0),.cells #[.pointer (some ⟨g,0,none⟩),.string m,.string t,.int .i64 mi,.slice fo nf ak,.int .i64 ln,.slice bo nb aj] 123 (0,0)] s (fun k=>S k∧k<w.heap.size) (((w.alloc (.cells #[.string m,.string t,.int .i64 mi,.slice fo nf ak,.int .i64 ln] 68)).alloc (.cells #[.int .i64 0,.slice none 0 0,.slice none 0 0] 88)).alloc (.cells #[.pointer (some ⟨g,0,none⟩),.string m,.string t,.int .i64 mi,.slice fo nf ak,.int .i64 ln,.slice bo nb aj] 123)) :=
  (((bP.start aQ h).box aQ rfl (fun k e=>e.2) _).box aQ hz1 (fun k e=>by rw[hz1];have:=e.2;omega) _).box aQ hz2 (fun k e=>by rw[hz2];have:=e.2;omega) _
 have hb3:Below w.heap.size w (((w.alloc (.cells #[.string m,.string t,.int .i64 mi,.slice fo nf ak,.int .i64 ln] 68)).alloc (.cells #[.int .i64 0,.slice none 0 0,.slice none 0 0] 88)).alloc (.cells #[.pointer (some ⟨g,0,none⟩),.string m,.string t,.int .i64 mi,.slice fo nf ak,.int .i64 ln,.slice bo nb aj] 123)):=then_ (then_ ((Below.refl _ w).alloc (Nat.le_refl _) _) ((Below.refl _ _).alloc (Nat.le_refl _) _)) ((Below.refl _ _).alloc (Nat.le_refl _) _);have HCa:=H9 (Fw (m:=m) (t:=t) (mi:=mi) (ln:=ln) (bo:=bo) (aj:=aj) (nb:=nb) (T3.pw p) T3.sh ok (hF.stay hb3) body hb (hB.stay hb3) hnb ht);have H3:=H9 T3;clear T3 hb3 p h ok hF hb hB hz1 hz2;obtain⟨R,hR⟩:∃R,R=Tu.aO s m t l body:=⟨_,rfl⟩;rw[<-hR] at HCa ⊢;clear hR;obtain⟨sr,st,lr⟩:=R;go_enter func30,ntmps30;go_wp2_with fail
 refine HCa.o.mono ?_;rintro e w9 ⟨⟨cB,aL,n9,rfl,eU,dH⟩,dV,kZ⟩;have za:=H3.o.did dV kZ;replace dH:=dH.mono (Nat.le_trans (Nat.le_add_right _ _) H3.o.sz);obtain⟨⟨z0,z1,z2,y0,y1,y2⟩,HE⟩:=za.ends aQ (i:=1) rfl (b:=w.heap.size+1) (by first | rfl | omega) (st:=st) (fV:=(st:Int)) rfl eU (Nat.le_refl _) dH (Below.refl w9.heap.size w9);clear eU dH dV kZ za;go_wp2;generalize (((w9.setCell ⟨w.heap.size+1,0,none⟩ (.int .i64 (st:Int))).setCell ⟨w.heap.size+1,1,none⟩ (.slice cB n9 aL)).setCell ⟨w.heap.size+1,2,none⟩ (.slice none 0 0))=wf at *;obtain⟨q0,q1,q2,q3⟩:=HE.o;refine bodyPost_ret (v:=.agg #[.int .i64 (st:Int),.slice cB n9 aL,.slice none 0 0]) (by simp[results,results30,go_sem,q0,q1,q2]) rfl ?_;exact q3
end
end Go.Proofs.YtjmndjmhjleabaaGreatDoor