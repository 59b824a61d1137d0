/- Small texts, one behind the other: FbPow, TsB, TsC, TsD, TsE, RpF, TsG, TsF, TsI, TsK, TsJ, TsH, TsL, TsM. -/
import Derived.Test.YtjmndjmhjleabaaGreatDoorShelf
import Derived.Test.YtjmndjmhjleabaaGreatDoorBase
import Derived.Test.YtjmndjmhjleabaaGreatDoorPk4
import Derived.Lib.AppendIntMem
import Derived.Test.YtjmndjmhjleabaaGreatDoorPk39
import Derived.Test.YtjmndjmhjleabaaGreatDoorPk26
import Derived.Test.YtjmndjmhjleabaaGreatDoorPk33
import Derived.Test.YtjmndjmhjleabaaGreatDoorPk5
import Derived.Test.YtjmndjmhjleabaaGreatDoorPk41
import Derived.Test.YtjmndjmhjleabaaGreatDoorPk40
import Derived.Test.YtjmndjmhjleabaaGreatDoorPk28
import Derived.Test.YtjmndjmhjleabaaGreatDoorPk45
import Derived.Deep.RegionHeld3
import Derived.Deep.DeepCutAuto
import Derived.Test.YtjmndjmhjleabaaGreatDoorPk14
import Derived.Defers
import Derived.Recover
set_option maxHeartbeats 8000000
set_option maxRecDepth 100000
open Go.Proofs.Tryz
namespace Go.Proofs.YtjmndjmhjleabaaGreatDoor
open Go.RowKit
def iO (w:World):Prop:=Lib.TabIs prog w "internal/strconv.uint64pow10" .u64 Lib.pow10Tab
theorem iO.stay {w w':World} (h:iO w) (hb:Below w.heap.size w w'):iO w':=by
 unfold iO Lib.TabIs World.var? at h ⊢;cases hg:prog.globalNamed "internal/strconv.uint64pow10" with
 | none=>rw [hg] at h;cases h
 | some g =>
   rw [hg] at h;simp only [Option.bind_some] at h ⊢;cases hh:w.heap[g]? with
   | none=>rw [hh] at h;cases h
   | some o=>rw [hb.block g (Array.getElem?_eq_some_iff.1 hh).1];exact h
theorem AB:∀ (f n:Nat),n<10 ^ (f+1)→Lib.decDigits n=Ch.dh f n
 | 0, n, h => by
   rw [Lib.decDigits,dif_pos (by simpa using h)];rfl
 | f + 1, n, h => by
   rw [Lib.decDigits,Ch.dh];by_cases hn:n<10
   · rw [dif_pos hn,if_pos hn]
   · rw [dif_neg hn,if_neg hn,AB f (n / 10) (by rw [Nat.pow_succ] at h;omega)]
theorem og (n:Nat) (hn:n<1000000000) (W:World) (hP:iO W):Calls prog 122 #[.int .i64 (n:Int)] W fun e w'=>e=.returned (.string ⟨(Ch.dh 8 n).toArray⟩)∧Below W.heap.size W w':=by
 have h:=Any.strconv_Itoa Tryz.lays171 (n:Int) (by omega) (by omega) W hP;rw [Lib.itoa_nonneg,AB 8 n (by simpa using hn)] at h;refine h.mono ?_;rintro e w' ⟨he,k,os,rfl⟩;exact ⟨he,Lib.below_grow _ W (Nat.le_refl _) k os⟩
theorem Eb (nm v:ByteArray) (x:Int) (w:World) (hI:∀ W,Below w.heap.size w W→Calls prog 122 #[.int .i64 x] W fun e w'=>e=.returned (.string v)∧Below W.heap.size W w') :
 Calls prog 116 #[.string nm,.int .i64 x] w fun e w'=>e=.returned (.agg #[.string nm,.string v])∧Below w.heap.size w w':=by
 have bT:=(Below.refl _ w).alloc (Nat.le_refl _) (.cells #[.string ⟨#[]⟩,.string ⟨#[]⟩] 111);have HI:=H9 (hI _ bT);have jK:=H9 bT;clear hI bT;go_enter func116,ntmps116;go_wp2_with fail
 refine HI.o.mono ?_;rintro e w1 ⟨rfl,hb1⟩;have HB1:=H9 hb1;clear hb1;go_wp2_with fail
 refine (dX nm v w1).mono ?_;rintro e w2 ⟨rfl,hb2⟩;have Zd:=then_ HB1.o hb2;have hr:w2.heap[w.heap.size]? = some (.cells #[.string ⟨#[]⟩,.string ⟨#[]⟩] 111 (0,0)):=(Zd.block w.heap.size (by simp)).trans (heap_alloc_new w _);have c0:w2.cell? ⟨w.heap.size,0,none⟩=some (.string ⟨#[]⟩):=cell_of_row w2 _ 0 _ _ _ hr;have c1:w2.cell? ⟨w.heap.size,1,none⟩=some (.string ⟨#[]⟩):=cell_of_row w2 _ 1 _ _ _ hr;have y0:w2.frozen? ⟨w.heap.size,0,none⟩=false:=frozen_of_row w2 _ 0 _ _ hr;have y1:w2.frozen? ⟨w.heap.size,1,none⟩=false:=frozen_of_row w2 _ 1 _ _ hr;have HB:=H9 (((then_ jK.o Zd).setCell (p:=⟨w.heap.size,0,none⟩) (Nat.le_refl _) (.string nm)).setCell (p:=⟨w.heap.size,1,none⟩) (Nat.le_refl _) (.string v));have HR:=H9 (heap_setCell_same _ _ 1 _ _ (.string v) (heap_setCell_same _ _ 0 _ _ (.string nm) hr));clear hb2 Zd hr HB1 jK HI;go_wp2;generalize ((w2.setCell ⟨w.heap.size,0,none⟩ (.string nm)).setCell ⟨w.heap.size,1,none⟩ (.string v))=wf at *;have q0:wf.cell? ⟨w.heap.size,0,none⟩=some (.string nm):=cell_of_row wf _ 0 _ _ _ HR.o;have q1:wf.cell? ⟨w.heap.size,1,none⟩=some (.string v):=cell_of_row wf _ 1 _ _ _ HR.o;exact bodyPost_ret (v:=.agg #[.string nm,.string v]) (by simp [results,results116,go_sem,q0,q1]) rfl ⟨rfl,HB.o⟩
theorem jR (nm:ByteArray) (n:Nat) (x:Int) (hx:(n:Int)=x) (hn:n<1000000000) (w:World) (hP:iO w):Calls prog 116 #[.string nm,.int .i64 x] w fun e w'=>e=.returned (.agg #[.string nm,.string (Tu.dec n)])∧Below w.heap.size w w':=by
 subst hx;exact Eb nm (Tu.dec n) n w (fun W hW=>og n hn W (hP.stay hW))
theorem xY (c:Nat) (w:World) :
 Calls prog 162 #[.int .i64 (c:Int)] w fun e w'=>e=.returned (.int .i64 (Tu.status c:Nat))∧w'=w:=by
 by_cases h10:c=10
 · subst h10;go_enter func162,ntmps162;go_wp2;go_ret;exact ⟨rfl,rfl⟩
 by_cases h17:c=17
 · subst h17;go_enter func162,ntmps162;go_wp2;go_ret;exact ⟨rfl,rfl⟩
 by_cases h19:c=19
 · subst h19;go_enter func162,ntmps162;go_wp2;go_ret;exact ⟨rfl,rfl⟩
 by_cases h4:c=4
 · subst h4;go_enter func162,ntmps162;go_wp2;go_ret;exact ⟨rfl,rfl⟩
 by_cases h8:c=8
 · subst h8;go_enter func162,ntmps162;go_wp2;go_ret;exact ⟨rfl,rfl⟩
 by_cases h16:c=16
 · subst h16;go_enter func162,ntmps162;go_wp2;go_ret;exact ⟨rfl,rfl⟩
 have HS:Hid (Tu.status c=400):=by
  unfold Hid Tu.status;rw [if_neg h10,if_neg (by omega),if_neg h4,if_neg (by omega)]
 have t10:((c:Int)==10)=false:=by rw [beq_eq_false_iff_ne];omega
 have t17:((c:Int)==17)=false:=by rw [beq_eq_false_iff_ne];omega
 have t19:((c:Int)==19)=false:=by rw [beq_eq_false_iff_ne];omega
 have t4:((c:Int)==4)=false:=by rw [beq_eq_false_iff_ne];omega
 have t8:((c:Int)==8)=false:=by rw [beq_eq_false_iff_ne];omega
 have t16:((c:Int)==16)=false:=by rw [beq_eq_false_iff_ne];omega
 clear h10 h17 h19 h4 h8 h16;go_enter func162,ntmps162;go_wp2;go_ret;exact ⟨by rw [HS.o];rfl,rfl⟩
theorem lG (w:World):Calls prog 120 #[.int .i64 0] w fun e w'=>e=.returned (.tuple #[])∧w'=w:=by
 have HS:=H9 (xY 0 w);go_enter func120,ntmps120;go_wp2_with fail
 refine HS.o.mono ?_;rintro e w1 ⟨rfl,hw⟩;rw [hw];clear hw;go_wp2_with fail
 refine (bB _ none 0 0 w).mono ?_;rintro e w2 ⟨rfl,hw⟩;rw [hw];clear hw;go_wp2;go_end0
 exact ⟨rfl,rfl⟩
theorem nE (c:Nat) (hc:c≠0) (w:World):Calls prog 120 #[.int .i64 (c:Int)] w fun e w'=>lF w (Tu.said (Tu.status c) []) e w':=by
 have HS:=H9 (xY c w);have t0:((c:Int)==0)=false:=by rw [beq_eq_false_iff_ne];omega
 have HN:=H9 (bF (Tu.status c) (Tu.status c:Nat) rfl w);clear hc;go_enter func120,ntmps120;go_wp2_with fail
 refine HS.o.mono ?_;rintro e w1 ⟨rfl,hw⟩;rw [hw];clear hw HS;go_wp2_with fail
 refine HN.o.mono ?_;rintro e w2 hG;have HG:=H9 hG;obtain ⟨ao,cap,n,he,_,_,_⟩:=hG;unfold bC at he;subst he;go_wp2;exact ⟨rfl,HG.o⟩
structure kI (w:World) (l:List (ByteArray×ByteArray)) (fo:Option Addr) (au nf:Nat):Prop where
 is:bS w fo au nf (aC l)
 len:l.length=nf
 few:nf≤1000
 small:∀ p∈l,p.1.size≤2000∧p.2.size≤2000
theorem kI.stay {w w':World} {l:List (ByteArray×ByteArray)} {fo:Option Addr} {au nf:Nat} (h:kI w l fo au nf) (hb:Below w.heap.size w w'):kI w' l fo au nf:=⟨h.is.stay hb,h.len,h.few,h.small⟩
section
variable {g:Nat} {m t:ByteArray} {mi ln:Int} {l:List (ByteArray×ByteArray)} {fo:Option Addr} {au nf:Nat} {bo:Option Addr} {aj nb:Nat} {w:World}
theorem jS (name:ByteArray) (hN:name.size≤2000) (h:kI w l fo au nf) {v:List UInt8} {c:Nat} (hv:Tu.one (Tu.vals name l)=(v,c)) (hc:c≠9) :
 Calls prog 85 #[.agg #[.pointer (some ⟨g,0,none⟩),.string m,.string t,.int .i64 mi,.slice fo nf au,.int .i64 ln,.slice bo nb aj],.string name] w fun e w'=>e=.returned (.tuple #[.string ⟨v.toArray⟩,.bool (decide (c=0))])∧Below w.heap.size w w':=by
 have bT:=(Below.refl _ w).alloc (Nat.le_refl _) (.cells #[.pointer (some ⟨g,0,none⟩),.string m,.string t,.int .i64 mi,.slice fo nf au,.int .i64 ln,.slice bo nb aj] 123);have HO:=H9 (om l name fo au nf _ (h.stay bT).is h.len (by have:=h.few;omega) h.small hN);rw [Tu.Tj,Tu.Nj,hv] at HO;unfold mH at HO;have t9:((c:Int) != 9)=true:=by rw [bne_iff_ne];omega
 have c4:(w.alloc (.cells #[.pointer (some ⟨g,0,none⟩),.string m,.string t,.int .i64 mi,.slice fo nf au,.int .i64 ln,.slice bo nb aj] 123)).cell? ⟨w.heap.size,4,none⟩=some (.slice fo nf au):=World.cell?_alloc_mark w _ _ _ 4;have jK:=H9 bT;clear h bT hv;generalize (⟨v.toArray⟩:ByteArray)=vb at *;have HT:Hid (∃ b:Bool,((c:Int)==0)=b∧decide (c=0)=b):=by
  by_cases h0:c=0
  · subst h0;exact ⟨true,rfl,rfl⟩
  · exact ⟨false,by rw [beq_eq_false_iff_ne];omega,decide_eq_false h0⟩
 obtain ⟨b,hb,hd⟩:=HT.o;rw [hd];clear hd HT hc;go_enter func85,ntmps85;go_wp2_with fail
 refine HO.o.mono ?_;rintro e w1 ⟨rfl,hb1⟩;have HB1:=H9 (then_ jK.o hb1);clear hb1 HO jK;go_wp2_with fail
 refine (bB 400 none 0 0 w1).mono ?_;rintro e w2 ⟨rfl,hw⟩;rw [hw];clear hw;go_wp2;go_ret2;exact ⟨rfl,HB1.o⟩
theorem tT (name:ByteArray) (hN:name.size≤2000) (h:kI w l fo au nf) {v:List UInt8} (hv:Tu.one (Tu.vals name l)=(v,0)) :
 Calls prog 85 #[.agg #[.pointer (some ⟨g,0,none⟩),.string m,.string t,.int .i64 mi,.slice fo nf au,.int .i64 ln,.slice bo nb aj],.string name] w fun e w'=>e=.returned (.tuple #[.string ⟨v.toArray⟩,.bool true])∧Below w.heap.size w w':=jS name hN h hv (by decide)
theorem Ec (name:ByteArray) (hN:name.size≤2000) (h:kI w l fo au nf) {v:List UInt8} (hv:Tu.one (Tu.vals name l)=(v,10)) :
 Calls prog 85 #[.agg #[.pointer (some ⟨g,0,none⟩),.string m,.string t,.int .i64 mi,.slice fo nf au,.int .i64 ln,.slice bo nb aj],.string name] w fun e w'=>e=.returned (.tuple #[.string ⟨v.toArray⟩,.bool false])∧Below w.heap.size w w':=jS name hN h hv (by decide)
theorem mM (name:ByteArray) (hN:name.size≤2000) (h:kI w l fo au nf) {v:List UInt8} (hv:Tu.one (Tu.vals name l)=(v,9)) :
 Calls prog 85 #[.agg #[.pointer (some ⟨g,0,none⟩),.string m,.string t,.int .i64 mi,.slice fo nf au,.int .i64 ln,.slice bo nb aj],.string name] w fun e w'=>lF w (Tu.said 400 []) e w':=by
 have bT:=(Below.refl _ w).alloc (Nat.le_refl _) (.cells #[.pointer (some ⟨g,0,none⟩),.string m,.string t,.int .i64 mi,.slice fo nf au,.int .i64 ln,.slice bo nb aj] 123);have HO:=H9 (om l name fo au nf _ (h.stay bT).is h.len (by have:=h.few;omega) h.small hN);rw [Tu.Tj,Tu.Nj,hv] at HO;unfold mH at HO;have c4:(w.alloc (.cells #[.pointer (some ⟨g,0,none⟩),.string m,.string t,.int .i64 mi,.slice fo nf au,.int .i64 ln,.slice bo nb aj] 123)).cell? ⟨w.heap.size,4,none⟩=some (.slice fo nf au):=World.cell?_alloc_mark w _ _ _ 4;have jK:=H9 bT;clear h bT hv;generalize (⟨v.toArray⟩:ByteArray)=vb at *;go_enter func85,ntmps85;go_wp2_with fail
 refine HO.o.mono ?_;rintro e w1 ⟨rfl,hb1⟩;have HB1:=H9 (then_ jK.o hb1);clear hb1 HO jK;go_wp2_with fail
 refine (bF 400 400 rfl w1).mono ?_;rintro e w2 hG;have HG:=H9 (hG.from_ HB1.o);obtain ⟨ao,cap,n,he,_,_,_⟩:=hG;unfold bC at he;subst he;go_wp2;exact ⟨rfl,HG.o⟩
end
theorem Tu.Ij (vs:List ByteArray):(Tu.one vs).2=0∨(Tu.one vs).2=9∨(Tu.one vs).2=10:=by
 unfold Tu.one;split
 · exact Or.inr (Or.inr rfl)
 · exact Or.inl rfl
 · exact Or.inr (Or.inl rfl)
theorem Tu.fK {a b:ByteArray} (h:Ch.lower a.data.toList=Ch.lower b.data.toList) (l:List (ByteArray×ByteArray)):Tu.vals a l=Tu.vals b l:=by unfold Tu.vals;rw [h]
theorem Tu.oq (l:List (ByteArray×ByteArray)):Tu.vals Tu.wE l=Tu.vals Tu.VX l:=Tu.fK (by decide +kernel) l
theorem Tu.qI (l:List (ByteArray×ByteArray)):Tu.vals Tu.zL l=Tu.vals Tu.zK l:=Tu.fK (by decide +kernel) l
theorem Tu.Tp (l:List (ByteArray×ByteArray)):Tu.vals Tu.zM l=Tu.vals Tu.RP l:=Tu.fK (by decide +kernel) l
theorem Tu.Ik (l:List (ByteArray×ByteArray)):Tu.vals Tu.JI l=Tu.vals Tu.Y3 l:=Tu.fK (by decide +kernel) l
theorem Tu.Tq (l:List (ByteArray×ByteArray)):Tu.vals Tu.pK l=Tu.vals Tu.nUO l:=Tu.fK (by decide +kernel) l
def Tu.Ze:ByteArray:=⟨#[67,111,110,116,101,110,116,45,84,121,112,101]⟩
theorem Tu.AJ (l:List (ByteArray×ByteArray)):Tu.vals Tu.Ze l=Tu.vals Tu.JH l:=Tu.fK (by decide +kernel) l
section
variable {g:Nat} {m t:ByteArray} {mi ln:Int} {l:List (ByteArray×ByteArray)} {fo:Option Addr} {au nf:Nat} {bo:Option Addr} {aj nb:Nat} {w:World}
theorem kI.val (h:kI w l fo au nf) (name:ByteArray):(Tu.one (Tu.vals name l)).1.length≤2000:=Tu.Tk l name 2000 (fun p hp=>(h.small p hp).2)
theorem oZ {w W:World} (hW:Below (w.alloc (.cells #[.pointer (some ⟨g,0,none⟩),.string m,.string t,.int .i64 mi,.slice fo nf au,.int .i64 ln,.slice bo nb aj] 123)).heap.size (w.alloc (.cells #[.pointer (some ⟨g,0,none⟩),.string m,.string t,.int .i64 mi,.slice fo nf au,.int .i64 ln,.slice bo nb aj] 123)) W):W.cell? ⟨w.heap.size,0,none⟩=some (.pointer (some ⟨g,0,none⟩))∧W.cell? ⟨w.heap.size,1,none⟩=some (.string m)∧W.cell? ⟨w.heap.size,2,none⟩=some (.string t)∧W.cell? ⟨w.heap.size,3,none⟩=some (.int .i64 mi)∧W.cell? ⟨w.heap.size,4,none⟩=some (.slice fo nf au)∧W.cell? ⟨w.heap.size,5,none⟩=some (.int .i64 ln)∧W.cell? ⟨w.heap.size,6,none⟩=some (.slice bo nb aj):=by
 have r:W.heap[w.heap.size]? = some (.cells #[.pointer (some ⟨g,0,none⟩),.string m,.string t,.int .i64 mi,.slice fo nf au,.int .i64 ln,.slice bo nb aj] 123 (0,0)):=(hW.block w.heap.size (by simp)).trans (heap_alloc_new w _);exact ⟨cell_of_row W _ 0 _ _ _ r,cell_of_row W _ 1 _ _ _ r,cell_of_row W _ 2 _ _ _ r,cell_of_row W _ 3 _ _ _ r,cell_of_row W _ 4 _ _ _ r,cell_of_row W _ 5 _ _ _ r,cell_of_row W _ 6 _ _ _ r⟩
theorem vD (name:ByteArray) (hN:name.size≤2000) (h:kI w l fo au nf) (hc:(Tu.one (Tu.vals name l)).2=10) :
 Calls prog 127 #[.agg #[.pointer (some ⟨g,0,none⟩),.string m,.string t,.int .i64 mi,.slice fo nf au,.int .i64 ln,.slice bo nb aj],.string name] w fun e w'=>e=.returned (.tuple #[.int .i64 0,.bool false])∧Below w.heap.size w w':=by
 have bT:=(Below.refl _ w).alloc (Nat.le_refl _) (.cells #[.pointer (some ⟨g,0,none⟩),.string m,.string t,.int .i64 mi,.slice fo nf au,.int .i64 ln,.slice bo nb aj] 123);generalize hv:Tu.one (Tu.vals name l)=r at *;obtain ⟨v,c⟩:=r;simp only at hc;subst hc;have HT:=H9 (Ec (g:=g) (m:=m) (t:=t) (mi:=mi) (ln:=ln) (bo:=bo) (aj:=aj) (nb:=nb) name hN (h.stay bT) hv);have jK:=H9 bT;obtain ⟨x0,x1,x2,x3,x4,x5,x6⟩:=oZ (g:=g) (m:=m) (t:=t) (mi:=mi) (ln:=ln) (fo:=fo) (au:=au) (nf:=nf) (bo:=bo) (aj:=aj) (nb:=nb) (w:=w) (Below.refl _ _);clear h bT hv;generalize (⟨v.toArray⟩:ByteArray)=vb at *;go_enter func127,ntmps127;go_wp2_with fail
 refine HT.o.mono ?_;rintro e w1 ⟨rfl,hb1⟩;have HB1:=H9 (then_ jK.o hb1);clear hb1 HT jK;go_wp2;go_ret2;exact ⟨rfl,HB1.o⟩
theorem xZ (name:ByteArray) (hN:name.size≤2000) (h:kI w l fo au nf) (hc:(Tu.one (Tu.vals name l)).2≠10) {x:Int} (hx:Tu.bZ (Tu.one (Tu.vals name l))=(x,true)) :
 Calls prog 127 #[.agg #[.pointer (some ⟨g,0,none⟩),.string m,.string t,.int .i64 mi,.slice fo nf au,.int .i64 ln,.slice bo nb aj],.string name] w fun e w'=>e=.returned (.tuple #[.int .i64 x,.bool true])∧Below w.heap.size w w':=by
 have bT:=(Below.refl _ w).alloc (Nat.le_refl _) (.cells #[.pointer (some ⟨g,0,none⟩),.string m,.string t,.int .i64 mi,.slice fo nf au,.int .i64 ln,.slice bo nb aj] 123);have hz:=h.val name;generalize hv:Tu.one (Tu.vals name l)=r at *;obtain ⟨v,c⟩:=r;simp only at hc hz;unfold Tu.bZ at hx;rw [if_neg hc] at hx;injection hx with hx1 hx2;rw [Bool.and_eq_true,decide_eq_true_eq] at hx2;obtain ⟨hx2,hx3⟩:=hx2;simp only at hx1 hx2 hx3;subst hx3;clear hc;have HT:=H9 (tT (g:=g) (m:=m) (t:=t) (mi:=mi) (ln:=ln) (bo:=bo) (aj:=aj) (nb:=nb) name hN (h.stay bT) hv);have Il:Hid (∀ W,Calls prog 124 #[.string ⟨v.toArray⟩] W fun e w'=>e=.returned (.tuple #[.int .i64 x,.bool true])∧w'=W):=fun W=>by
  have:=jF ⟨v.toArray⟩ W (by show v.toArray.size≤_;rw [List.size_toArray];unfold maxLen;omega);rw [show (⟨v.toArray⟩:ByteArray).data.toList=v from by simp,hx1,hx2] at this;exact this
 have jK:=H9 bT;obtain ⟨x0,x1,x2,x3,x4,x5,x6⟩:=oZ (g:=g) (m:=m) (t:=t) (mi:=mi) (ln:=ln) (fo:=fo) (au:=au) (nf:=nf) (bo:=bo) (aj:=aj) (nb:=nb) (w:=w) (Below.refl _ _);clear h bT hv hx1 hx2 hz;generalize (⟨v.toArray⟩:ByteArray)=vb at *;go_enter func127,ntmps127;go_wp2_with fail
 refine HT.o.mono ?_;rintro e w1 ⟨rfl,hb1⟩;have HB1:=H9 (then_ jK.o hb1);clear hb1 HT jK;go_wp2_with fail
 refine (Il.o w1).mono ?_;rintro e w2 ⟨rfl,hw⟩;rw [hw];clear hw;go_wp2_with fail
 refine (bB 400 none 0 0 w1).mono ?_;rintro e w2 ⟨rfl,hw⟩;rw [hw];clear hw;go_wp2;go_ret2;exact ⟨rfl,HB1.o⟩
theorem AL (name:ByteArray) (hN:name.size≤2000) (h:kI w l fo au nf) (hx:(Tu.bZ (Tu.one (Tu.vals name l))).2=false) :
 Calls prog 127 #[.agg #[.pointer (some ⟨g,0,none⟩),.string m,.string t,.int .i64 mi,.slice fo nf au,.int .i64 ln,.slice bo nb aj],.string name] w fun e w'=>lF w (Tu.said 400 []) e w':=by
 have bT:=(Below.refl _ w).alloc (Nat.le_refl _) (.cells #[.pointer (some ⟨g,0,none⟩),.string m,.string t,.int .i64 mi,.slice fo nf au,.int .i64 ln,.slice bo nb aj] 123);have hz:=h.val name;have hco:=Tu.Ij (Tu.vals name l);generalize hv:Tu.one (Tu.vals name l)=r at *;obtain ⟨v,c⟩:=r;have jK:=H9 bT;obtain ⟨x0,x1,x2,x3,x4,x5,x6⟩:=oZ (g:=g) (m:=m) (t:=t) (mi:=mi) (ln:=ln) (fo:=fo) (au:=au) (nf:=nf) (bo:=bo) (aj:=aj) (nb:=nb) (w:=w) (Below.refl _ _);simp only at hco hz;unfold Tu.bZ at hx;by_cases WK:c=9
 · subst WK;have HT:=H9 (mM (g:=g) (m:=m) (t:=t) (mi:=mi) (ln:=ln) (bo:=bo) (aj:=aj) (nb:=nb) name hN (h.stay bT) hv);clear h bT hv hz hx hco;go_enter func127,ntmps127;go_wp2_with fail
   refine HT.o.mono ?_;rintro e w2 hG;have HG:=H9 (hG.from_ jK.o);obtain ⟨ao,cap,n,he,_,_,_⟩:=hG;unfold bC at he;subst he;go_wp2;exact ⟨rfl,HG.o⟩
 · have afh:c≠10:=fun e=>by subst e;rw [if_pos rfl] at hx;cases hx
   obtain rfl:c=0:=by omega
   rw [if_neg (by simp)] at hx;have hx2:(Ch.number 10 9 v).2=false:=by
    cases e:(Ch.number 10 9 v).2 with
    | false=>rfl
    | true=>simp [e] at hx
   have HT:=H9 (tT (g:=g) (m:=m) (t:=t) (mi:=mi) (ln:=ln) (bo:=bo) (aj:=aj) (nb:=nb) name hN (h.stay bT) hv);have Il:Hid (∀ W,Calls prog 124 #[.string ⟨v.toArray⟩] W fun e w'=>e=.returned (.tuple #[.int .i64 (Ch.number 10 9 v).1,.bool false])∧w'=W):=fun W=>by
    have:=jF ⟨v.toArray⟩ W (by show v.toArray.size≤_;rw [List.size_toArray];unfold maxLen;omega);rw [show (⟨v.toArray⟩:ByteArray).data.toList=v from by simp,hx2] at this;exact this
   clear h bT hv hz hx hco hx2 WK afh;generalize (Ch.number 10 9 v).1=y at *;generalize (⟨v.toArray⟩:ByteArray)=vb at *;go_enter func127,ntmps127;go_wp2_with fail
   refine HT.o.mono ?_;rintro e w1 ⟨rfl,hb1⟩;have HB1:=H9 (then_ jK.o hb1);clear hb1 HT jK;go_wp2_with fail
   refine (Il.o w1).mono ?_;rintro e w2 ⟨rfl,hw⟩;rw [hw];clear hw;go_wp2_with fail
   refine (bF 400 400 rfl w1).mono ?_;rintro e w2 hG;have HG:=H9 (hG.from_ HB1.o);obtain ⟨ao,cap,n,he,_,_,_⟩:=hG;unfold bC at he;subst he;go_wp2;exact ⟨rfl,HG.o⟩
end
section
variable {g:Nat} {m t:ByteArray} {mi ln:Int} {l:List (ByteArray×ByteArray)} {fo:Option Addr} {au nf:Nat} {bo:Option Addr} {aj nb:Nat} {w:World}
theorem lF.ends {w w1 w2:World} {r:Tu.uD} {e:Ending} (hb:Below w.heap.size w w1) (hG:lF w1 r e w2):Hid (lF w r e w2)∧∃ (ao:Option Addr) (cap n:Nat),e=bC (r.1:Int) ao n cap:=by
 refine ⟨hG.from_ hb,?_⟩;obtain ⟨ao,cap,n,he,_⟩:=hG;exact ⟨ao,cap,n,he⟩
theorem Tu.Ef {r:List UInt8×Nat} (hc:r.2≠10) {x:Int} (hx:Tu.bZ r=(x,true)):0≤x:=by
 unfold Tu.bZ at hx;rw [if_neg hc] at hx;injection hx with h1 h2;rw [Bool.and_eq_true] at h2;rw [←h1];exact (Ch.lH h2.1).1
theorem Tu.AU {r:List UInt8×Nat} (hc:r.2=10):Tu.bZ r=(-1,true):=by unfold Tu.bZ;rw [if_pos hc]
def Tu.rU (l:List (ByteArray×ByteArray)):Prop:=(Tu.one (Tu.vals Tu.RP l)).2=9∨((Tu.one (Tu.vals Tu.RP l)).2=0∧(Tu.one (Tu.vals Tu.RP l)).1≠Tu.tH.data.toList)∨(0≤(Tu.bZ (Tu.one (Tu.vals Tu.zK l))).1↔(Tu.one (Tu.vals Tu.RP l)).2=0)
theorem O6 (h:kI w l fo au nf) (hx:(Tu.bZ (Tu.one (Tu.vals Tu.zK l))).2=false) :
 Calls prog 118 #[.agg #[.pointer (some ⟨g,0,none⟩),.string m,.string t,.int .i64 mi,.slice fo nf au,.int .i64 ln,.slice bo nb aj]] w fun e w'=>lF w (Tu.said 400 []) e w':=by
 have bT:=(Below.refl _ w).alloc (Nat.le_refl _) (.cells #[.pointer (some ⟨g,0,none⟩),.string m,.string t,.int .i64 mi,.slice fo nf au,.int .i64 ln,.slice bo nb aj] 123);have jK:=H9 bT;obtain ⟨x0,x1,x2,x3,x4,x5,x6⟩:=oZ (g:=g) (m:=m) (t:=t) (mi:=mi) (ln:=ln) (fo:=fo) (au:=au) (nf:=nf) (bo:=bo) (aj:=aj) (nb:=nb) (w:=w) (Below.refl _ _);have HN:=H9 (AL (g:=g) (m:=m) (t:=t) (mi:=mi) (ln:=ln) (bo:=bo) (aj:=aj) (nb:=nb) Tu.zL (by decide) (h.stay bT) (by rw [Tu.qI];exact hx));unfold Tu.zL at HN;clear h bT hx;go_enter func118,ntmps118;go_wp2_with fail
 refine HN.o.mono ?_;rintro e w2 hG;obtain ⟨HG,ao,cap,n,he⟩:=hG.ends jK.o;unfold bC at he;subst he;go_wp2;exact ⟨rfl,HG.o⟩
theorem O7 (h:kI w l fo au nf) (hx:(Tu.bZ (Tu.one (Tu.vals Tu.zK l))).2=true) :
 (Tu.rU l→Calls prog 118 #[.agg #[.pointer (some ⟨g,0,none⟩),.string m,.string t,.int .i64 mi,.slice fo nf au,.int .i64 ln,.slice bo nb aj]] w fun e w'=>lF w (Tu.said 400 []) e w') ∧
 (¬ Tu.rU l→Calls prog 118 #[.agg #[.pointer (some ⟨g,0,none⟩),.string m,.string t,.int .i64 mi,.slice fo nf au,.int .i64 ln,.slice bo nb aj]] w fun e w'=>e=.returned (.int .i64 (Tu.bZ (Tu.one (Tu.vals Tu.zK l))).1)∧Below w.heap.size w w'):=by
 have bT:=(Below.refl _ w).alloc (Nat.le_refl _) (.cells #[.pointer (some ⟨g,0,none⟩),.string m,.string t,.int .i64 mi,.slice fo nf au,.int .i64 ln,.slice bo nb aj] 123);have jK:=H9 bT;have HC:Hid (∀ W,Below (w.alloc (.cells #[.pointer (some ⟨g,0,none⟩),.string m,.string t,.int .i64 mi,.slice fo nf au,.int .i64 ln,.slice bo nb aj] 123)).heap.size (w.alloc (.cells #[.pointer (some ⟨g,0,none⟩),.string m,.string t,.int .i64 mi,.slice fo nf au,.int .i64 ln,.slice bo nb aj] 123)) W→W.cell? ⟨w.heap.size,0,none⟩=some (.pointer (some ⟨g,0,none⟩))∧W.cell? ⟨w.heap.size,1,none⟩=some (.string m)∧W.cell? ⟨w.heap.size,2,none⟩=some (.string t)∧W.cell? ⟨w.heap.size,3,none⟩=some (.int .i64 mi)∧W.cell? ⟨w.heap.size,4,none⟩=some (.slice fo nf au)∧W.cell? ⟨w.heap.size,5,none⟩=some (.int .i64 ln)∧W.cell? ⟨w.heap.size,6,none⟩=some (.slice bo nb aj)):=fun W hW=>oZ hW;obtain ⟨x0,x1,x2,x3,x4,x5,x6⟩:=HC.o _ (Below.refl _ _);have key:∃ (y:Int) (told:Bool),Hid ((Tu.bZ (Tu.one (Tu.vals Tu.zK l))).1=(if told then y else -1)∧(told=true→0≤y))∧∀ W,Below w.heap.size w W→Calls prog 127 #[.agg #[.pointer (some ⟨g,0,none⟩),.string m,.string t,.int .i64 mi,.slice fo nf au,.int .i64 ln,.slice bo nb aj],.string Tu.zL] W fun e w'=>e=.returned (.tuple #[.int .i64 y,.bool told])∧Below W.heap.size W w':=by
  by_cases hc:(Tu.one (Tu.vals Tu.zK l)).2=10
  · exact ⟨0,false,⟨by rw [Tu.AU hc];rfl,fun e=>by cases e⟩,fun W hW=>vD Tu.zL (by decide) (h.stay hW) (by rw [Tu.qI];exact hc)⟩
  · generalize hy:Tu.bZ (Tu.one (Tu.vals Tu.zK l))=r at *;obtain ⟨y,b⟩:=r;simp only at hx;subst hx;exact ⟨y,true,⟨rfl,fun _=>Tu.Ef hc hy⟩,fun W hW=>xZ Tu.zL (by decide) (h.stay hW) (by rw [Tu.qI];exact hc) (by rw [Tu.qI];exact hy)⟩
 obtain ⟨y,told,HY,Iy⟩:=key;have Il:=H9 (Iy _ bT);unfold Tu.zL at Il;have hco:=Tu.Ij (Tu.vals Tu.RP l);unfold Tu.rU;generalize hv:Tu.one (Tu.vals Tu.RP l)=r at *;obtain ⟨v,c⟩:=r;have hvD:Tu.one (Tu.vals Tu.zM l)=(v,c):=by rw [Tu.Tp];exact hv
 simp only at hco;have HF:=H9 h;clear h bT hv Iy hx;generalize (Tu.bZ (Tu.one (Tu.vals Tu.zK l))).1=z at *;rcases hco with rfl | rfl | rfl
 · -- it is told later;have oz:Hid (∀ W,Below w.heap.size w W→Calls prog 85 #[.agg #[.pointer (some ⟨g,0,none⟩),.string m,.string t,.int .i64 mi,.slice fo nf au,.int .i64 ln,.slice bo nb aj],.string Tu.zM] W fun e w'=>e=.returned (.tuple #[.string ⟨v.toArray⟩,.bool true])∧Below W.heap.size W w'):=fun W hW=>tT Tu.zM (by decide) (HF.o.stay hW) hvD;unfold Tu.zM at oz;obtain ⟨b1,hb1⟩:∃ b,((⟨v.toArray⟩:ByteArray).toList==([49]:List UInt8))=b:=⟨_,rfl⟩;have e1:v=Tu.tH.data.toList↔b1=true:=by rw [←hb1];exact Tu.eqV v _
   have H1e:=H9 e1;clear e1 hvD;generalize (⟨v.toArray⟩:ByteArray)=vb at *;refine ⟨fun hbad=>?_,fun hok=>?_⟩
   · have AV:=H9 hbad;clear hbad;go_enter func118,ntmps118;go_wp2_with fail
     refine Il.o.mono ?_;rintro e w1 ⟨rfl,hw1⟩;have HB1:=H9 (then_ jK.o hw1);clear x0 x1 x2 x3 x4 x5 x6;obtain ⟨x0,x1,x2,x3,x4,x5,x6⟩:=HC.o _ hw1;clear hw1 Il;go_wp2_with fail
     refine (oz.o w1 HB1.o).mono ?_;rintro e w2 ⟨rfl,hw2⟩;have HB2:=H9 (then_ HB1.o hw2);clear hw2 oz x0 x1 x2 x3 x4 x5 x6;cases b1 with
     | false =>
       go_wp2_with fail
       refine (bF 400 400 rfl w2).mono ?_;rintro e w9 hG;obtain ⟨HG,ao,cap,n,he⟩:=hG.ends HB2.o;unfold bC at he;subst he;clear hG;go_wp2;exact ⟨rfl,HG.o⟩
     | true =>
       go_wp2_with fail
       refine (bB 400 none 0 0 w2).mono ?_;rintro e w3 ⟨rfl,hw⟩;rw [hw];clear hw;cases told with
       | false =>
         exfalso;have h1:=AV.o;have h2:=HY.o.1;simp only [Bool.false_eq_true,if_false] at h2;rcases h1 with h1 | h1 | h1
         · cases h1
         · exact h1.2 (H1e.o.2 (by first | exact rfl | trivial))
         · have:=h1.2 (by first | exact rfl | trivial);omega
       | true =>
         go_wp2_with fail
         refine (bF 400 400 rfl w2).mono ?_;rintro e w9 hG;obtain ⟨HG,ao,cap,n,he⟩:=hG.ends HB2.o;unfold bC at he;subst he;clear hG;go_wp2;exact ⟨rfl,HG.o⟩
   · have kV:=H9 hok;clear hok;have hb:b1=true:=by
      cases b1 with
      | true=>rfl
      | false=>exact absurd (Or.inr (Or.inl ⟨rfl,fun e=>by have:=H1e.o.1 e;cases this⟩)) kV.o
     subst hb;have ht:told=false:=by
      cases told with
      | false=>rfl
      | true =>
        refine absurd (Or.inr (Or.inr ⟨fun _=>rfl,fun _=>?_⟩)) kV.o;have h2:=HY.o.1;have h3:=HY.o.2 rfl;rw [h2];exact h3
     subst ht;have hz:z=-1:=HY.o.1;subst hz;go_enter func118,ntmps118;go_wp2_with fail
     refine Il.o.mono ?_;rintro e w1 ⟨rfl,hw1⟩;have HB1:=H9 (then_ jK.o hw1);clear x0 x1 x2 x3 x4 x5 x6;obtain ⟨x0,x1,x2,x3,x4,x5,x6⟩:=HC.o _ hw1;clear hw1 Il;go_wp2_with fail
     refine (oz.o w1 HB1.o).mono ?_;rintro e w2 ⟨rfl,hw2⟩;have HB2:=H9 (then_ HB1.o hw2);clear hw2 oz x0 x1 x2 x3 x4 x5 x6;go_wp2_with fail
     refine (bB 400 none 0 0 w2).mono ?_;rintro e w3 ⟨rfl,hw⟩;rw [hw];clear hw;go_wp2_with fail
     refine (bB 400 none 0 0 w2).mono ?_;rintro e w3 ⟨rfl,hw⟩;rw [hw];clear hw;go_wp2;go_ret;exact ⟨rfl,HB2.o⟩
 · -- several that say later;refine ⟨fun _=>?_,fun hok=>absurd (Or.inl rfl) hok⟩;have oz:Hid (∀ W,Below w.heap.size w W→Calls prog 85 #[.agg #[.pointer (some ⟨g,0,none⟩),.string m,.string t,.int .i64 mi,.slice fo nf au,.int .i64 ln,.slice bo nb aj],.string Tu.zM] W fun e w'=>lF W (Tu.said 400 []) e w'):=fun W hW=>mM Tu.zM (by decide) (HF.o.stay hW) hvD;unfold Tu.zM at oz;clear hvD;go_enter func118,ntmps118;go_wp2_with fail
   refine Il.o.mono ?_;rintro e w1 ⟨rfl,hw1⟩;have HB1:=H9 (then_ jK.o hw1);clear x0 x1 x2 x3 x4 x5 x6;obtain ⟨x0,x1,x2,x3,x4,x5,x6⟩:=HC.o _ hw1;clear hw1 Il;go_wp2_with fail
   refine (oz.o w1 HB1.o).mono ?_;rintro e w9 hG;obtain ⟨HG,ao,cap,n,he⟩:=hG.ends HB1.o;unfold bC at he;subst he;clear hG;go_wp2;exact ⟨rfl,HG.o⟩
 · -- it is not told later;have oz:Hid (∀ W,Below w.heap.size w W→Calls prog 85 #[.agg #[.pointer (some ⟨g,0,none⟩),.string m,.string t,.int .i64 mi,.slice fo nf au,.int .i64 ln,.slice bo nb aj],.string Tu.zM] W fun e w'=>e=.returned (.tuple #[.string ⟨v.toArray⟩,.bool false])∧Below W.heap.size W w'):=fun W hW=>Ec Tu.zM (by decide) (HF.o.stay hW) hvD;unfold Tu.zM at oz;clear hvD;generalize (⟨v.toArray⟩:ByteArray)=vb at *;cases told with
   | false =>
     have hz:z=-1:=HY.o.1;refine ⟨fun _=>?_,fun hok=>absurd (Or.inr (Or.inr ⟨fun e=>by omega,fun e=>by cases e⟩)) hok⟩;go_enter func118,ntmps118;go_wp2_with fail
     refine Il.o.mono ?_;rintro e w1 ⟨rfl,hw1⟩;have HB1:=H9 (then_ jK.o hw1);clear x0 x1 x2 x3 x4 x5 x6;obtain ⟨x0,x1,x2,x3,x4,x5,x6⟩:=HC.o _ hw1;clear hw1 Il;go_wp2_with fail
     refine (oz.o w1 HB1.o).mono ?_;rintro e w2 ⟨rfl,hw2⟩;have HB2:=H9 (then_ HB1.o hw2);clear hw2 oz x0 x1 x2 x3 x4 x5 x6;go_wp2_with fail
     refine (bB 400 none 0 0 w2).mono ?_;rintro e w3 ⟨rfl,hw⟩;rw [hw];clear hw;go_wp2_with fail
     refine (bF 400 400 rfl w2).mono ?_;rintro e w9 hG;obtain ⟨HG,ao,cap,n,he⟩:=hG.ends HB2.o;unfold bC at he;subst he;clear hG;go_wp2;exact ⟨rfl,HG.o⟩
   | true =>
     have hz:z=y:=HY.o.1;subst hz;have hpos:=HY.o.2 rfl;refine ⟨fun hbad=>?_,fun _=>?_⟩
     · exfalso;rcases hbad with e | e | e
       · cases e
       · cases e.1
       · have:=e.1 hpos;cases this
     clear hpos;go_enter func118,ntmps118;go_wp2_with fail
     refine Il.o.mono ?_;rintro e w1 ⟨rfl,hw1⟩;have HB1:=H9 (then_ jK.o hw1);clear x0 x1 x2 x3 x4 x5 x6;obtain ⟨x0,x1,x2,x3,x4,x5,x6⟩:=HC.o _ hw1;clear hw1 Il;go_wp2_with fail
     refine (oz.o w1 HB1.o).mono ?_;rintro e w2 ⟨rfl,hw2⟩;have HB2:=H9 (then_ HB1.o hw2);clear hw2 oz x0 x1 x2 x3 x4 x5 x6;go_wp2_with fail
     refine (bB 400 none 0 0 w2).mono ?_;rintro e w3 ⟨rfl,hw⟩;rw [hw];clear hw;go_wp2_with fail
     refine (bB 400 none 0 0 w2).mono ?_;rintro e w3 ⟨rfl,hw⟩;rw [hw];clear hw;go_wp2;go_ret;exact ⟨rfl,HB2.o⟩
end
def Tu.inside (s:ByteArray):Bool:=decide (7≤s.size)&&decide (s.data.toList.take 7=Tu.fZ.data.toList)
theorem tY (s:ByteArray) (w:World) (hs:s.size≤100000):Calls prog 82 #[.string s,.string ⟨#[47,102,105,108,101,115,47]⟩] w fun e w'=>e=.returned (.bool (Tu.inside s))∧w'=w:=by
 by_cases h7:7≤s.size
 · have h7':(7:Int)≤(s.size:Int):=by omega
   obtain ⟨b,hb⟩:∃ b,((s.extract 0 7).toList==([47,102,105,108,101,115,47]:List UInt8))=b:=⟨_,rfl⟩;have HI:Hid (Tu.inside s=b):=by
    unfold Hid Tu.inside;rw [decide_eq_true h7,Bool.true_and,←hb,Tu.afg];rw [Bool.eq_iff_iff,decide_eq_true_eq,beq_iff_eq];rfl
   rw [HI.o];go_enter func82,ntmps82;go_wp2;go_ret;exact ⟨rfl,rfl⟩
 · have h7':¬ (7:Int)≤(s.size:Int):=by omega
   have HI:Hid (Tu.inside s=false):=by
    unfold Hid Tu.inside;rw [decide_eq_false h7,Bool.false_and]
   rw [HI.o];go_enter func82,ntmps82;go_wp2;go_ret;exact ⟨rfl,rfl⟩
theorem yg (s:ByteArray) (w:World) (hs:s.size≤100000):Calls prog 49 #[.string s,.string ⟨#[47,102,105,108,101,115,47]⟩] w fun e w'=>e=.returned (.bool (Tu.inside s))∧w'=w:=by
 have HH:=H9 (tY s w hs);generalize Tu.inside s=b at *;go_enter func49,ntmps49;go_wp2_with fail
 refine HH.o.mono ?_;rintro e w1 ⟨rfl,hw⟩;rw [hw];go_wp2;go_ret;exact ⟨rfl,rfl⟩
theorem O8 (s:ByteArray) (w:World) (hs:s.size≤100000):Calls prog 108 #[.string s] w fun e w'=>e=.returned (.bool (Tu.ours s))∧w'=w:=by
 have HH:=H9 (yg s w hs);obtain ⟨b,hb⟩:∃ b,(s.toList==([47,102,105,108,101,115]:List UInt8))=b:=⟨_,rfl⟩;have e1:s=Tu.nL↔b=true:=by rw [←hb];exact Tu.Vw s Tu.nL _ rfl
 have HO:Hid (Tu.ours s=(b || Tu.inside s)):=by
  unfold Hid Tu.ours;rw [show decide (s=Tu.nL)=b from by rw [Bool.eq_iff_iff,decide_eq_true_eq];exact e1];rfl
 rw [HO.o];clear e1 HO;generalize Tu.inside s=c at *;cases b with
 | true =>
   go_enter func108,ntmps108;go_wp2;go_ret;exact ⟨rfl,rfl⟩
 | false =>
   go_enter func108,ntmps108;go_wp2_with fail
   refine HH.o.mono ?_;rintro e w1 ⟨rfl,hw⟩;rw [hw];go_wp2;go_ret;exact ⟨by simp,rfl⟩
theorem KU (s:ByteArray) (w:World) (hs:s.size≤100000) (hi:Tu.inside s=true):Calls prog 123 #[.string s,.string ⟨#[47,102,105,108,101,115,47]⟩] w fun e w'=>e=.returned (.tuple #[.string (s.extract 7 s.size),.bool true])∧w'=w:=by
 have HH:=H9 (tY s w hs);rw [hi] at HH;have h7:7≤s.size:=by
  unfold Tu.inside at hi;rw [Bool.and_eq_true,decide_eq_true_eq] at hi;exact hi.1
 have h7':(7:Int)≤(s.size:Int):=by omega
 have HC:Hid (Calls prog 165 #[.string s,.string ⟨#[47,102,105,108,101,115,47]⟩] w fun e w'=>e=.returned (.tuple #[.string (s.extract 7 s.size),.bool true])∧w'=w):=by
  unfold Hid;clear hi;go_enter func165,ntmps165;go_wp2_with fail
  refine HH.o.mono ?_;rintro e w1 ⟨rfl,hw⟩;rw [hw];go_wp2;go_ret2;exact ⟨rfl,rfl⟩
 clear HH hi h7 h7';generalize s.extract 7 s.size=x at *;go_enter func123,ntmps123;go_wp2_with fail
 refine HC.o.mono ?_;rintro e w1 ⟨rfl,hw⟩;rw [hw];go_wp2;go_ret2;exact ⟨rfl,rfl⟩
theorem O9 (s:ByteArray) (w:World) (hs:s.size≤100000) (hi:Tu.inside s=false):Calls prog 123 #[.string s,.string ⟨#[47,102,105,108,101,115,47]⟩] w fun e w'=>e=.returned (.tuple #[.string s,.bool false])∧w'=w:=by
 have HH:=H9 (tY s w hs);rw [hi] at HH;have HC:Hid (Calls prog 165 #[.string s,.string ⟨#[47,102,105,108,101,115,47]⟩] w fun e w'=>e=.returned (.tuple #[.string s,.bool false])∧w'=w):=by
  unfold Hid;clear hi;go_enter func165,ntmps165;go_wp2_with fail
  refine HH.o.mono ?_;rintro e w1 ⟨rfl,hw⟩;rw [hw];go_wp2;go_ret2;exact ⟨rfl,rfl⟩
 clear HH hi;go_enter func123,ntmps123;go_wp2_with fail
 refine HC.o.mono ?_;rintro e w1 ⟨rfl,hw⟩;rw [hw];go_wp2;go_ret2;exact ⟨rfl,rfl⟩
def Tw:ByteArray:=⟨#[67,111,110,116,101,110,116,45,76,101,110,103,116,104]⟩
def Rp.fault (st:Int) (l:List (ByteArray×ByteArray)):Nat:=if Rp.word st=[] then 11 else if 16≤l.length then 8 else if (Fd.vals Tw l).length≠0 then 12 else 0
theorem KV (w:World) (st:Int) (l:List (ByteArray×ByteArray)) (fo bo:Option Addr) (au aj nb:Nat) (hl:bS w fo au l.length (aC l)) (hN:l.length≤1000000) (hs:∀ p∈l,p.1.size≤2000∧p.2.size≤2000) :
 Calls prog 144 #[.agg #[.int .i64 st,.slice fo l.length au,.slice bo nb aj]] w fun e w'=>e=.returned (.int .i64 (Rp.fault st l:Nat))∧Below w.heap.size w w':=by
 have HX:Hid (∀ W,dw w #[.int .i64 st,.slice fo l.length au,.slice bo nb aj] 88 W→W.cell? ⟨w.heap.size,0,none⟩=some (.int .i64 st)∧W.cell? ⟨w.heap.size,1,none⟩=some (.slice fo l.length au)∧W.cell? ⟨w.heap.size,2,none⟩=some (.slice bo nb aj)):=fun W h=>⟨h.cell 0,h.cell 1,h.cell 2⟩;have H0:=H9 (dw.made w #[.int .i64 st,.slice fo l.length au,.slice bo nb aj] 88);have HA:=H9 (oh l Tw fo au l.length _ (hl.stay H0.o.below) rfl hN hs (by decide));have WQ:=H9 (fun W=>AX st W);clear hl hs;obtain ⟨x0,x1,x2⟩:=HX.o _ H0.o;go_enter func144,ntmps144;go_wp2_with fail
 refine (WQ.o _).mono ?_;rintro e w1 ⟨rfl,hw1⟩;subst hw1;by_cases hwd:Rp.word st=[]
 · have HF:Hid (Rp.fault st l=11):=by unfold Hid Rp.fault;rw [if_pos hwd]
   have tw:((⟨(Rp.word st).toArray⟩:ByteArray).toList==([]:List UInt8))=true:=by rw [Lib.toList_data,hwd];rfl
   generalize (⟨(Rp.word st).toArray⟩:ByteArray)=wd at *;clear hwd;go_wp2;go_ret;exact ⟨by rw [HF.o];rfl,H0.o.below⟩
 · have tw:((⟨(Rp.word st).toArray⟩:ByteArray).toList==([]:List UInt8))=false:=by rw [Lib.toList_data,beq_eq_false_iff_ne];simpa using hwd
   have HT:Hid (Rp.fault st l=if 16≤l.length then 8 else if (Fd.vals Tw l).length≠0 then 12 else 0):=by unfold Hid Rp.fault;rw [if_neg hwd]
   generalize (⟨(Rp.word st).toArray⟩:ByteArray)=wd at *;clear hwd;by_cases h16:16≤l.length
   · have HF:Hid (Rp.fault st l=8):=by unfold Hid;rw [HT.o,if_pos h16]
     have t16:decide ((l.length:Int) ≥ 16)=true:=by rw [decide_eq_true_eq];omega
     clear HT;go_wp2;go_ret;exact ⟨by rw [HF.o];rfl,H0.o.below⟩
   · have t16:decide ((l.length:Int) ≥ 16)=false:=by rw [decide_eq_false_iff_not];omega
     rw [if_neg h16] at HT;unfold Tw at HA;go_wp2_with fail
     refine HA.o.mono ?_;rintro e w2 ⟨a2,c2,rfl,_,hb2⟩;have xX:=H9 (H0.o.stay hb2);clear hb2 x0 x1 x2 HA;rw [show (⟨#[67,111,110,116,101,110,116,45,76,101,110,103,116,104]⟩:ByteArray)=Tw from rfl];generalize (Fd.vals Tw l).length=nv at *;by_cases hnv:0<nv
     · have HF:Hid (Rp.fault st l=12):=by unfold Hid;rw [HT.o,if_pos (by omega)]
       have tn:decide ((nv:Int) > 0)=true:=by rw [decide_eq_true_eq];omega
       clear HT;go_wp2;go_ret;exact ⟨by rw [HF.o];rfl,xX.o.below⟩
     · have HF:Hid (Rp.fault st l=0):=by unfold Hid;rw [HT.o,if_neg (by omega)]
       have tn:decide ((nv:Int) > 0)=false:=by rw [decide_eq_false_iff_not];omega
       clear HT;go_wp2;go_ret;exact ⟨by rw [HF.o];rfl,xX.o.below⟩
inductive gI (S:Nat→Prop) (w:World) (g:Nat) (r:Sr.Sh×Tu.uD):Ending→World→Prop
 | ret {ao:Option Addr} {cap n:Nat} {w':World} (hn:r.2.2.length=n) (hO:aD w' w.heap.size 111 2 ao cap n (aC r.2.2)) (hat:aU w' (av S w) g r.1) (hT:Turns S w w'):gI S w g r (.returned (.agg #[.int .i64 (r.2.1:Int),.slice ao n cap,.slice none 0 0])) w'
 | gave {ao:Option Addr} {cap n:Nat} {w':World} (hn:r.2.2.length=n) (hO:aD w' w.heap.size 111 2 ao cap n (aC r.2.2)) (hat:aU w' (av S w) g r.1) (hT:Turns S w w'):gI S w g r (bC (r.2.1:Int) ao n cap) w'
theorem gI.of {S:Nat→Prop} {w:World} {g:Nat} {r:Sr.Sh×Tu.uD} {e:Ending} {w':World} (h:u7 aU S w g r e w'):gI S w g r e w':=by
 obtain ⟨⟨ao,cap,n,rfl,hn,hO⟩,hat,hT⟩:=h;exact .ret hn hO hat hT
structure qQ (w0 w:World) (S:Nat→Prop):Prop where
 pow:iO w0
 p8:Below w0.heap.size w0 w
 far:∀ k,S k→w0.heap.size≤k
section
variable {S S':Nat→Prop} {w0 w W W':World} {g:Nat} {bs:List Obj} {s:Sr.Sh}
theorem bV.new {O:Yc} (h:bV O S w g bs s S' W):∀ k,S' k→av S w k:=fun k e=>by
 rcases h.ap k e with h2 | h2
 · exact Or.inl h2.1
 · exact Or.inr (by omega)
theorem bV.pow {O:Yc} (h:bV O S w g bs s S' W) (p:qQ w0 w S):iO W:=p.pow.stay (p.p8.trans (h.tu.below (fun k e=>p.far k e.1) p.p8.size))
theorem bV.fell (h:bV aU S w g bs s S' W) {rep:Tu.uD} {e:Ending} (hg:lF W rep e W'):Hid (gI S w g (s,rep) e W')∧∃ (ao:Option Addr) (cap n:Nat),e=bC (rep.1:Int) ao n cap:=by
 obtain ⟨ao,cap,n,rfl,hn,hO,hB⟩:=hg;have h1:=h.stay aW hB;exact ⟨.gave hn (hO.mono (Nat.le_trans (Nat.le_add_right _ _) h.sz)) (h1.sh.mono (fun k _ e=>h1.new k e)) (h1.tu.mono (fun k e=>e.1)),ao,cap,n,rfl⟩
theorem bV.I7 (h:bV aU S w g bs s S' W) {r:Sr.Sh×Tu.uD} {ao:Option Addr} {cap n:Nat} (hn:r.2.2.length=n) (hO:aD W' W.heap.size 111 2 ao cap n (aC r.2.2)) (hat:aU W' (av S' W) g r.1) (hT:Turns S' W W'):gI S w g r (bC (r.2.1:Int) ao n cap) W':=by
 have h1:=h.did hat hT;exact .gave hn (hO.mono (Nat.le_trans (Nat.le_add_right _ _) h.sz)) (h1.sh.mono (fun k _ e=>h1.new k e)) (h1.tu.mono (fun k e=>e.1))
end
section
variable {g:Nat} {m t:ByteArray} {mi ln:Int} {l:List (ByteArray×ByteArray)} {fo:Option Addr} {au nf:Nat} {bo:Option Addr} {aj nb:Nat} {w:World} {S:Nat→Prop} {s:Sr.Sh}
theorem Nv (h:aU w S g s) (ob:Obj):bV aU S w g [.cells #[.pointer (some ⟨g,0,none⟩),.string m,.string t,.int .i64 mi,.slice fo nf au,.int .i64 ln,.slice bo nb aj] 123 (0,0),ob] s (fun k=>S k∧k<w.heap.size) ((w.alloc (.cells #[.pointer (some ⟨g,0,none⟩),.string m,.string t,.int .i64 mi,.slice fo nf au,.int .i64 ln,.slice bo nb aj] 123)).alloc ob):=by
 have hz:(w.alloc (.cells #[.pointer (some ⟨g,0,none⟩),.string m,.string t,.int .i64 mi,.slice fo nf au,.int .i64 ln,.slice bo nb aj] 123)).heap.size=w.heap.size+1:=World.size_alloc ..;exact ((bV.start aW h).box aW rfl (fun k e=>e.2) _).box aW hz (fun k e=>by rw [hz];have:=e.2;omega) _
theorem bV.ex {bs:List Obj} {S':Nat→Prop} {s':Sr.Sh} {W:World} (h:bV aU S w g (.cells #[.pointer (some ⟨g,0,none⟩),.string m,.string t,.int .i64 mi,.slice fo nf au,.int .i64 ln,.slice bo nb aj] 123 (0,0)::bs) s' S' W):W.cell? ⟨w.heap.size,0,none⟩=some (.pointer (some ⟨g,0,none⟩))∧W.cell? ⟨w.heap.size,1,none⟩=some (.string m)∧W.cell? ⟨w.heap.size,2,none⟩=some (.string t)∧W.cell? ⟨w.heap.size,3,none⟩=some (.int .i64 mi)∧W.cell? ⟨w.heap.size,4,none⟩=some (.slice fo nf au)∧W.cell? ⟨w.heap.size,5,none⟩=some (.int .i64 ln)∧W.cell? ⟨w.heap.size,6,none⟩=some (.slice bo nb aj):=by
 have r:=h.row 0 rfl;exact ⟨cell_of_row W _ 0 _ _ _ r,cell_of_row W _ 1 _ _ _ r,cell_of_row W _ 2 _ _ _ r,cell_of_row W _ 3 _ _ _ r,cell_of_row W _ 4 _ _ _ r,cell_of_row W _ 5 _ _ _ r,cell_of_row W _ 6 _ _ _ r⟩
theorem yA (h:aU w S g s) (ok:Sr.Ok s) (hP:iO w) (ht:t.size≤100000) :
 (Tu.wG s.h t=none→Calls prog 89 #[.agg #[.pointer (some ⟨g,0,none⟩),.string m,.string t,.int .i64 mi,.slice fo nf au,.int .i64 ln,.slice bo nb aj]] w fun e w'=>lF w (Tu.said 404 []) e w') ∧
 (∀ u,Tu.wG s.h t=some u→Calls prog 89 #[.agg #[.pointer (some ⟨g,0,none⟩),.string m,.string t,.int .i64 mi,.slice fo nf au,.int .i64 ln,.slice bo nb aj]] w fun e w'=>∃ (ao:Option Addr) (cap:Nat),e=.returned (.agg #[.int .i64 u.id,.int .i64 u.size,.string u.note,.slice ao u.bytes.length cap,.int .i64 u.sent])∧Below w.heap.size w w'):=by
 have T2:bV aU S w g [.cells #[.pointer (some ⟨g,0,none⟩),.string m,.string t,.int .i64 mi,.slice fo nf au,.int .i64 ln,.slice bo nb aj] 123 (0,0),.cells #[.int .i64 0,.int .i64 0,.string ⟨#[]⟩,.slice none 0 0,.int .i64 0] 101] s (fun k=>S k∧k<w.heap.size) ((w.alloc (.cells #[.pointer (some ⟨g,0,none⟩),.string m,.string t,.int .i64 mi,.slice fo nf au,.int .i64 ln,.slice bo nb aj] 123)).alloc (.cells #[.int .i64 0,.int .i64 0,.string ⟨#[]⟩,.slice none 0 0,.int .i64 0] 101)):=Nv h _;have HB2:Hid (Below w.heap.size w ((w.alloc (.cells #[.pointer (some ⟨g,0,none⟩),.string m,.string t,.int .i64 mi,.slice fo nf au,.int .i64 ln,.slice bo nb aj] 123)).alloc (.cells #[.int .i64 0,.int .i64 0,.string ⟨#[]⟩,.slice none 0 0,.int .i64 0] 101))):=then_ ((Below.refl _ w).alloc (Nat.le_refl _) _) ((Below.refl _ _).alloc (Nat.le_refl _) _);have HC:Hid (∀ W,bV aU S w g [.cells #[.pointer (some ⟨g,0,none⟩),.string m,.string t,.int .i64 mi,.slice fo nf au,.int .i64 ln,.slice bo nb aj] 123 (0,0),.cells #[.int .i64 0,.int .i64 0,.string ⟨#[]⟩,.slice none 0 0,.int .i64 0] 101] s (fun k=>S k∧k<w.heap.size) W→W.cell? ⟨w.heap.size,0,none⟩=some (.pointer (some ⟨g,0,none⟩))∧W.cell? ⟨w.heap.size,1,none⟩=some (.string m)∧W.cell? ⟨w.heap.size,2,none⟩=some (.string t)∧W.cell? ⟨w.heap.size,3,none⟩=some (.int .i64 mi)∧W.cell? ⟨w.heap.size,4,none⟩=some (.slice fo nf au)∧W.cell? ⟨w.heap.size,5,none⟩=some (.int .i64 ln)∧W.cell? ⟨w.heap.size,6,none⟩=some (.slice bo nb aj)):=fun W hW=>hW.ex;obtain ⟨x0,x1,x2,x3,x4,x5,x6⟩:=HC.o _ T2;have H2:=H9 T2;clear T2;obtain ⟨gs,gl,lo,lca,P,hI⟩:=h;have HG:Hid (∀ W,Below w.heap.size w W→W.cell? ⟨g,0,none⟩=some (.pointer (some ⟨gs,0,none⟩))∧bE W P gs s.h):=fun W hW=>⟨cell_of_row W _ 0 _ _ _ (hI.stay hW).row,(hI.stay hW).qF⟩;have kV:=H9 ok;have Es:=H9 hP;clear hI ok hP;cases hin:Tu.inside t with
 | false =>
   have HCu:Hid (∀ W,Calls prog 123 #[.string t,.string ⟨#[47,102,105,108,101,115,47]⟩] W fun e w'=>e=.returned (.tuple #[.string t,.bool false])∧w'=W):=fun W=>O9 t W ht hin;have ng:Hid (∀ W,Calls prog 124 #[.string t] W fun e w'=>e=.returned (.tuple #[.int .i64 (Ch.number 10 9 t.data.toList).1,.bool (Ch.number 10 9 t.data.toList).2])∧w'=W):=fun W=>jF t W (by unfold maxLen;omega);have hnone:Tu.wG s.h t=none:=Tu.Nk (fun x=>by
    unfold Tu.inside at hin;rw [decide_eq_true (by omega:7≤t.size),Bool.true_and,decide_eq_false_iff_not] at hin;exact hin x.2.1) s.h
   refine ⟨fun _=>?_,fun u hu=>by rw [hnone] at hu;cases hu⟩;clear hnone hin;generalize Ch.number 10 9 t.data.toList=rn at *;obtain ⟨n,okn⟩:=rn;go_enter func89,ntmps89;go_wp2_with fail
   refine (HCu.o _).mono ?_;rintro e w1 ⟨rfl,hw⟩;rw [hw];clear hw;go_wp2_with fail
   refine (ng.o _).mono ?_;rintro e w1 ⟨rfl,hw⟩;rw [hw];clear hw;go_wp2_with fail
   refine (bF 404 404 rfl _).mono ?_;rintro e w9 hG;obtain ⟨zo,dz,aP,n9,he⟩:=hG.ends HB2.o;unfold bC at he;subst he;clear hG;go_wp2;exact ⟨rfl,zo.o⟩
 | true =>
   have HCu:Hid (∀ W,Calls prog 123 #[.string t,.string ⟨#[47,102,105,108,101,115,47]⟩] W fun e w'=>e=.returned (.tuple #[.string (t.extract 7 t.size),.bool true])∧w'=W):=fun W=>KU t W ht hin;have ng:Hid (∀ W,Calls prog 124 #[.string (t.extract 7 t.size)] W fun e w'=>e=.returned (.tuple #[.int .i64 (Ch.number 10 9 (t.data.toList.drop 7)).1,.bool (Ch.number 10 9 (t.data.toList.drop 7)).2])∧w'=W):=fun W=>by
    have:=jF (t.extract 7 t.size) W (by rw [ByteArray.size_extract];unfold maxLen;omega);rw [Tu.Yd] at this;exact this
   have hin2:t.data.toList.take 7=Tu.fZ.data.toList:=by
    unfold Tu.inside at hin;rw [Bool.and_eq_true,decide_eq_true_eq,decide_eq_true_eq] at hin;exact hin.2
   have hsm:(Ch.number 10 9 (t.data.toList.drop 7)).2=true→0≤(Ch.number 10 9 (t.data.toList.drop 7)).1∧(Ch.number 10 9 (t.data.toList.drop 7)).1<1000000000∧7<t.size:=fun e=>⟨(Ch.lH e).1,(Ch.lH e).2,by
    rcases Nat.lt_or_ge 7 t.size with h | h
    · exact h
    · exfalso;rw [List.drop_eq_nil_of_le (by rw [Array.length_toList];exact h)] at e;revert e;decide⟩
   have hno:((Ch.number 10 9 (t.data.toList.drop 7)).2=false∨Ch.dh 8 (Ch.number 10 9 (t.data.toList.drop 7)).1.toNat≠t.data.toList.drop 7)→Tu.wG s.h t=none:=fun e=>Tu.Nk (fun x=>e.elim (fun e=>by have h3:=x.2.2.1;rw [e] at h3;cases h3) (fun e=>e x.2.2.2)) s.h;have hye:=fun (h7:7<t.size) (e:(Ch.number 10 9 (t.data.toList.drop 7)).2=true) (e2:Ch.dh 8 (Ch.number 10 9 (t.data.toList.drop 7)).1.toNat=t.data.toList.drop 7)=>Tu.Tn (t:=t) ⟨h7,hin2,e,e2⟩ s.h;clear hin hin2;generalize Ch.number 10 9 (t.data.toList.drop 7)=rn at *;obtain ⟨n,okn⟩:=rn;simp only at hsm hno hye;cases okn with
   | false =>
     have hnone:=hno (Or.inl rfl);refine ⟨fun _=>?_,fun u hu=>by rw [hnone] at hu;cases hu⟩;clear hno hye hsm hnone;generalize t.extract 7 t.size=nm at *;go_enter func89,ntmps89;go_wp2_with fail
     refine (HCu.o _).mono ?_;rintro e w1 ⟨rfl,hw⟩;rw [hw];clear hw;go_wp2_with fail
     refine (ng.o _).mono ?_;rintro e w1 ⟨rfl,hw⟩;rw [hw];clear hw;go_wp2_with fail
     refine (bF 404 404 rfl _).mono ?_;rintro e w9 hG;obtain ⟨zo,dz,aP,n9,he⟩:=hG.ends HB2.o;unfold bC at he;subst he;clear hG;go_wp2;exact ⟨rfl,zo.o⟩
   | true =>
     obtain ⟨hn0,hn1,h7⟩:=hsm rfl;have ZB:Hid (∀ W,Below w.heap.size w W→Calls prog 122 #[.int .i64 n] W fun e w'=>e=.returned (.string (Tu.dec n.toNat))∧Below W.heap.size W w'):=fun W hW=>by
      have:=og n.toNat (by omega) W (Es.o.stay hW);rw [show ((n.toNat:Nat):Int)=n from by omega] at this;exact this
     have HI2:=H9 (ZB.o _ HB2.o);obtain ⟨bs,hbs⟩:∃ b,((Tu.dec n.toNat).toList==(t.extract 7 t.size).toList)=b:=⟨_,rfl⟩;have eS:Ch.dh 8 n.toNat=t.data.toList.drop 7↔bs=true:=by
      rw [←hbs,Lib.toList_data,Lib.toList_data,Tu.Yd,beq_iff_eq];rfl
     generalize Tu.dec n.toNat=nd at *;cases bs with
     | false =>
       have hnone:=hno (Or.inr (fun e=>by have:=eS.1 e;cases this));refine ⟨fun _=>?_,fun u hu=>by rw [hnone] at hu;cases hu⟩;clear hno hye hsm hnone eS;generalize t.extract 7 t.size=nm at *;go_enter func89,ntmps89;go_wp2_with fail
       refine (HCu.o _).mono ?_;rintro e w1 ⟨rfl,hw⟩;rw [hw];clear hw;go_wp2_with fail
       refine (ng.o _).mono ?_;rintro e w1 ⟨rfl,hw⟩;rw [hw];clear hw;go_wp2_with fail
       refine HI2.o.mono ?_;rintro e w3 ⟨rfl,hw3⟩;have HB3:=H9 (then_ HB2.o hw3);clear hw3 HI2;go_wp2_with fail
       refine (bF 404 404 rfl _).mono ?_;rintro e w9 hG;obtain ⟨zo,dz,aP,n9,he⟩:=hG.ends HB3.o;unfold bC at he;subst he;clear hG;go_wp2;exact ⟨rfl,zo.o⟩
     | true =>
       have hu:=hye h7 rfl (eS.2 rfl);clear hno hye hsm eS;generalize t.extract 7 t.size=nm at *;cases hp:Sp.place s.h.l n with
       | none =>
         rw [hp] at hu;simp only at hu;have ZC:Hid (∀ W,Below w.heap.size w W→Calls prog 125 #[.pointer (some ⟨gs,0,none⟩),.int .i64 n] W fun e w'=>e=.returned (.tuple #[.agg #[.int .i64 0,.int .i64 0,.string ⟨#[]⟩,.slice none 0 0,.int .i64 0],.bool false])∧Below W.heap.size W w'):=fun W hW=>PV s.h P gs n W (HG.o W hW).2 kV.o.h hp;refine ⟨fun _=>?_,fun u hu2=>by rw [hu] at hu2;cases hu2⟩;clear hu hp;go_enter func89,ntmps89;go_wp2_with fail
         refine (HCu.o _).mono ?_;rintro e w1 ⟨rfl,hw⟩;rw [hw];clear hw;go_wp2_with fail
         refine (ng.o _).mono ?_;rintro e w1 ⟨rfl,hw⟩;rw [hw];clear hw;go_wp2_with fail
         refine HI2.o.mono ?_;rintro e w3 ⟨rfl,hw3⟩;have HB3:=H9 (then_ HB2.o hw3);have H3:=H9 (H2.o.stay aW hw3);clear hw3 HI2 x0 x1 x2 x3 x4 x5 x6;obtain ⟨x0,x1,x2,x3,x4,x5,x6⟩:=HC.o _ H3.o;have g0:=(HG.o _ HB3.o).1;go_wp2_with fail
         refine (bB 404 none 0 0 _).mono ?_;rintro e w1 ⟨rfl,hw⟩;rw [hw];clear hw;go_wp2_with fail
         refine (ZC.o _ HB3.o).mono ?_;rintro e w4 ⟨rfl,hw4⟩;have dx:=H9 (then_ (then_ HB3.o hw4) ((Below.refl _ w4).alloc (Nat.le_refl _) (.cells #[.int .i64 0,.int .i64 0,.string ⟨#[]⟩,.slice none 0 0,.int .i64 0] 101)));clear hw4 ZC x0 x1 x2 x3 x4 x5 x6 g0;go_wp2_with fail
         refine (bF 404 404 rfl _).mono ?_;rintro e w9 hG;obtain ⟨zo,dz,aP,n9,he⟩:=hG.ends dx.o;unfold bC at he;subst he;clear hG;go_wp2;exact ⟨rfl,zo.o⟩
       | some i =>
         rw [hp] at hu;simp only at hu;have hi:=Sp.nW hp;rw [List.getElem?_eq_getElem hi] at hu;have ZC:Hid (∀ W,Below w.heap.size w W→Calls prog 125 #[.pointer (some ⟨gs,0,none⟩),.int .i64 n] W fun e w'=>∃ ao cap,e=.returned (.tuple #[.agg #[.int .i64 s.h.l[i].id,.int .i64 s.h.l[i].size,.string s.h.l[i].note,.slice ao s.h.l[i].bytes.length cap,.int .i64 s.h.l[i].sent],.bool true])∧aT w' ao cap s.h.l[i].bytes∧Below W.heap.size W w'):=fun W hW=>PW s.h P gs n i W (HG.o W hW).2 kV.o.h hp hi;generalize s.h.l[i]=u0 at *;refine ⟨fun hu2=>(by rw [hu] at hu2;cases hu2),fun u hu2=>?_⟩;rw [hu] at hu2;injection hu2 with hu2;subst hu2;clear hu hp hi;generalize u0.bytes.length=ub at *;go_enter func89,ntmps89;go_wp2_with fail
         refine (HCu.o _).mono ?_;rintro e w1 ⟨rfl,hw⟩;rw [hw];clear hw;go_wp2_with fail
         refine (ng.o _).mono ?_;rintro e w1 ⟨rfl,hw⟩;rw [hw];clear hw;go_wp2_with fail
         refine HI2.o.mono ?_;rintro e w3 ⟨rfl,hw3⟩;have HB3:=H9 (then_ HB2.o hw3);have H3:=H9 (H2.o.stay aW hw3);clear hw3 HI2 x0 x1 x2 x3 x4 x5 x6;obtain ⟨x0,x1,x2,x3,x4,x5,x6⟩:=HC.o _ H3.o;have g0:=(HG.o _ HB3.o).1;go_wp2_with fail
         refine (bB 404 none 0 0 _).mono ?_;rintro e w1 ⟨rfl,hw⟩;rw [hw];clear hw;go_wp2_with fail
         refine (ZC.o _ HB3.o).mono ?_;rintro e w4 ⟨ao,cap,rfl,_,hw4⟩;have hb5:=(Below.refl _ w4).alloc (Nat.le_refl _) (.cells #[.int .i64 u0.id,.int .i64 u0.size,.string u0.note,.slice ao ub cap,.int .i64 u0.sent] 101);have lX:=H9 (then_ (then_ HB3.o hw4) hb5);have mU:=((H3.o.stay aW hw4).stay aW hb5).row 1 rfl;have Pg:=H9 mU;have v0:(w4.alloc (.cells #[.int .i64 u0.id,.int .i64 u0.size,.string u0.note,.slice ao ub cap,.int .i64 u0.sent] 101)).cell? ⟨w4.heap.size,0,none⟩=some (.int .i64 u0.id):=World.cell?_alloc_mark w4 _ _ _ 0;have v1:(w4.alloc (.cells #[.int .i64 u0.id,.int .i64 u0.size,.string u0.note,.slice ao ub cap,.int .i64 u0.sent] 101)).cell? ⟨w4.heap.size,1,none⟩=some (.int .i64 u0.size):=World.cell?_alloc_mark w4 _ _ _ 1;have v2:(w4.alloc (.cells #[.int .i64 u0.id,.int .i64 u0.size,.string u0.note,.slice ao ub cap,.int .i64 u0.sent] 101)).cell? ⟨w4.heap.size,2,none⟩=some (.string u0.note):=World.cell?_alloc_mark w4 _ _ _ 2;have v3:(w4.alloc (.cells #[.int .i64 u0.id,.int .i64 u0.size,.string u0.note,.slice ao ub cap,.int .i64 u0.sent] 101)).cell? ⟨w4.heap.size,3,none⟩=some (.slice ao ub cap):=World.cell?_alloc_mark w4 _ _ _ 3;have v4:(w4.alloc (.cells #[.int .i64 u0.id,.int .i64 u0.size,.string u0.note,.slice ao ub cap,.int .i64 u0.sent] 101)).cell? ⟨w4.heap.size,4,none⟩=some (.int .i64 u0.sent):=World.cell?_alloc_mark w4 _ _ _ 4;have z0:=cell_of_row _ _ 0 _ _ _ mU;have z1:=cell_of_row _ _ 1 _ _ _ mU;have z2:=cell_of_row _ _ 2 _ _ _ mU;have z3:=cell_of_row _ _ 3 _ _ _ mU;have z4:=cell_of_row _ _ 4 _ _ _ mU
         have y0:=frozen_of_row _ _ 0 _ _ mU;have y1:=frozen_of_row _ _ 1 _ _ mU;have y2:=frozen_of_row _ _ 2 _ _ mU;have y3:=frozen_of_row _ _ 3 _ _ mU;have y4:=frozen_of_row _ _ 4 _ _ mU
         simp at z0 z1 z2 z3 z4;clear hw4 ZC x0 x1 x2 x3 x4 x5 x6 g0 hb5 mU;go_upto_region 5 with fail
         generalize (w4.alloc (.cells #[.int .i64 u0.id,.int .i64 u0.size,.string u0.note,.slice ao ub cap,.int .i64 u0.sent] 101))=w5 at *;generalize w4.heap.size=k4 at *;go_wp2_with fail
         refine (bB 404 none 0 0 _).mono ?_;rintro e w1 ⟨rfl,hw⟩;rw [hw];clear hw;go_wp2;have hb6:=((((lX.o.setCell (p:=⟨w.heap.size+1,0,none⟩) (Nat.le_add_right _ _) (.int .i64 u0.id)).setCell (p:=⟨w.heap.size+1,1,none⟩) (Nat.le_add_right _ _) (.int .i64 u0.size)).setCell (p:=⟨w.heap.size+1,2,none⟩) (Nat.le_add_right _ _) (.string u0.note)).setCell (p:=⟨w.heap.size+1,3,none⟩) (Nat.le_add_right _ _) (.slice ao ub cap)).setCell (p:=⟨w.heap.size+1,4,none⟩) (Nat.le_add_right _ _) (.int .i64 u0.sent);have Bg:=heap_setCell_same _ _ 4 _ _ (.int .i64 u0.sent) (heap_setCell_same _ _ 3 _ _ (.slice ao ub cap) (heap_setCell_same _ _ 2 _ _ (.string u0.note) (heap_setCell_same _ _ 1 _ _ (.int .i64 u0.size) (heap_setCell_same _ _ 0 _ _ (.int .i64 u0.id) Pg.o))));generalize (((((w5.setCell ⟨w.heap.size+1,0,none⟩ (Value.int .i64 u0.id)).setCell ⟨w.heap.size+1,1,none⟩ (Value.int .i64 u0.size)).setCell ⟨w.heap.size+1,2,none⟩ (Value.string u0.note)).setCell ⟨w.heap.size+1,3,none⟩ (Value.slice ao ub cap)).setCell ⟨w.heap.size+1,4,none⟩ (Value.int .i64 u0.sent))=w6 at hb6 Bg ⊢;have r0:w6.cell? ⟨w.heap.size+1,0,none⟩=some (.int .i64 u0.id):=cell_of_row w6 _ 0 _ _ _ Bg;have r1:w6.cell? ⟨w.heap.size+1,1,none⟩=some (.int .i64 u0.size):=cell_of_row w6 _ 1 _ _ _ Bg;have r2:w6.cell? ⟨w.heap.size+1,2,none⟩=some (.string u0.note):=cell_of_row w6 _ 2 _ _ _ Bg;have r3:w6.cell? ⟨w.heap.size+1,3,none⟩=some (.slice ao ub cap):=cell_of_row w6 _ 3 _ _ _ Bg;have r4:w6.cell? ⟨w.heap.size+1,4,none⟩=some (.int .i64 u0.sent):=cell_of_row w6 _ 4 _ _ _ Bg;exact bodyPost_ret (v:=.agg #[.int .i64 u0.id,.int .i64 u0.size,.string u0.note,.slice ao ub cap,.int .i64 u0.sent]) (by simp [results,results89,go_sem,r0,r1,r2,r3,r4]) rfl ⟨ao,cap,rfl,hb6⟩
end
section
variable {g:Nat} {m t:ByteArray} {mi ln:Int} {l:List (ByteArray×ByteArray)} {fo:Option Addr} {au nf:Nat} {bo:Option Addr} {aj nb:Nat} {w:World}
theorem Ji (h:kI w l fo au nf) (hx:(Tu.one (Tu.vals Tu.JH l)).2=9) :
 Calls prog 126 #[.agg #[.pointer (some ⟨g,0,none⟩),.string m,.string t,.int .i64 mi,.slice fo nf au,.int .i64 ln,.slice bo nb aj]] w fun e w'=>lF w (Tu.said 400 []) e w':=by
 have bT:=(Below.refl _ w).alloc (Nat.le_refl _) (.cells #[.pointer (some ⟨g,0,none⟩),.string m,.string t,.int .i64 mi,.slice fo nf au,.int .i64 ln,.slice bo nb aj] 123);have jK:=H9 bT;obtain ⟨x0,x1,x2,x3,x4,x5,x6⟩:=oZ (g:=g) (m:=m) (t:=t) (mi:=mi) (ln:=ln) (fo:=fo) (au:=au) (nf:=nf) (bo:=bo) (aj:=aj) (nb:=nb) (w:=w) (Below.refl _ _);have HN:=H9 (mM (g:=g) (m:=m) (t:=t) (mi:=mi) (ln:=ln) (bo:=bo) (aj:=aj) (nb:=nb) Tu.Ze (by decide) (h.stay bT) (v:=(Tu.one (Tu.vals Tu.JH l)).1) (by rw [Tu.AJ,←hx]));unfold Tu.Ze at HN;clear h bT hx;go_enter func126,ntmps126;go_wp2_with fail
 refine HN.o.mono ?_;rintro e w2 hG;obtain ⟨HG,ao,cap,n,he⟩:=hG.ends jK.o;unfold bC at he;subst he;clear hG;go_wp2;exact ⟨rfl,HG.o⟩
theorem LJ (h:kI w l fo au nf) (hx:(Tu.one (Tu.vals Tu.JH l)).2≠9) :
 (Tu.zN (Tu.one (Tu.vals Tu.JH l)).1=false→Calls prog 126 #[.agg #[.pointer (some ⟨g,0,none⟩),.string m,.string t,.int .i64 mi,.slice fo nf au,.int .i64 ln,.slice bo nb aj]] w fun e w'=>lF w (Tu.said 415 []) e w') ∧
 (Tu.zN (Tu.one (Tu.vals Tu.JH l)).1=true→Calls prog 126 #[.agg #[.pointer (some ⟨g,0,none⟩),.string m,.string t,.int .i64 mi,.slice fo nf au,.int .i64 ln,.slice bo nb aj]] w fun e w'=>e=.returned (.tuple #[])∧Below w.heap.size w w'):=by
 have bT:=(Below.refl _ w).alloc (Nat.le_refl _) (.cells #[.pointer (some ⟨g,0,none⟩),.string m,.string t,.int .i64 mi,.slice fo nf au,.int .i64 ln,.slice bo nb aj] 123);have jK:=H9 bT;obtain ⟨x0,x1,x2,x3,x4,x5,x6⟩:=oZ (g:=g) (m:=m) (t:=t) (mi:=mi) (ln:=ln) (fo:=fo) (au:=au) (nf:=nf) (bo:=bo) (aj:=aj) (nb:=nb) (w:=w) (Below.refl _ _);have hz:=h.val Tu.JH;generalize hv:Tu.one (Tu.vals Tu.JH l)=r at *;obtain ⟨v,c⟩:=r;simp only at hz hx;have HT:=H9 (jS (g:=g) (m:=m) (t:=t) (mi:=mi) (ln:=ln) (bo:=bo) (aj:=aj) (nb:=nb) Tu.Ze (by decide) (h.stay bT) (by rw [Tu.AJ];exact hv) hx);unfold Tu.Ze at HT;have HP:Hid (∀ W,Calls prog 168 #[.string ⟨v.toArray⟩] W fun e w'=>o7 W (Pm.dS v) e w'):=fun W=>by
  have:=tX ⟨v.toArray⟩ W (by show v.toArray.size≤_;rw [List.size_toArray];omega);rw [show (⟨v.toArray⟩:ByteArray).data.toList=v from by simp] at this;exact this
 have gQ:Hid (∀ word ps code,Tv (Pm.dS v) word ps code→(Tu.zN v=(word.toList==([97,112,112,108,105,99,97,116,105,111,110,47,111,102,102,115,101,116,43,111,99,116,101,116,45,115,116,114,101,97,109]:List UInt8)))):=fun word ps code hM=>by
  rw [Bool.eq_iff_iff,beq_iff_eq,Lib.toList_data];unfold Tu.zN;cases hm:Pm.dS v with
  | inl c =>
    rw [hm] at hM;obtain ⟨h1,h2,h3⟩:=hM;subst h2;constructor
    · intro e;cases e
    · intro e;simp at e
  | inr x =>
    rw [hm] at hM;obtain ⟨h1,h2,h3⟩:=hM;simp only [decide_eq_true_eq];rw [h2];rfl
 clear h bT hv hz;generalize decide (c=0)=cb at *;generalize (⟨v.toArray⟩:ByteArray)=vb at *;generalize Tu.zN v=off at *;generalize Pm.dS v=md at *;refine ⟨fun ho=>?_,fun ho=>?_⟩
 · subst ho;go_enter func126,ntmps126;go_wp2_with fail
   refine HT.o.mono ?_;rintro e w1 ⟨rfl,hw1⟩;have HB1:=H9 (then_ jK.o hw1);clear hw1 HT jK x0 x1 x2 x3 x4 x5 x6;go_wp2_with fail
   refine (HP.o w1).mono ?_;rintro e w2 ⟨word,ps,ao,cap,code,rfl,hM,_,hw2⟩;have ho:=(gQ.o _ _ _ hM).symm;have HB2:=H9 (then_ (then_ HB1.o hw2) ((Below.refl _ w2).alloc (Nat.le_refl _) (.cells #[.string word,.slice ao ps.length cap] 172)));clear hM hw2 HP gQ HB1;generalize ps.length=np at *;go_wp2_with fail
   refine (bF 415 415 rfl _).mono ?_;rintro e w9 hG;obtain ⟨HG,dz,aP,n9,he⟩:=hG.ends HB2.o;unfold bC at he;subst he;clear hG;go_wp2;exact ⟨rfl,HG.o⟩
 · subst ho;go_enter func126,ntmps126;go_wp2_with fail
   refine HT.o.mono ?_;rintro e w1 ⟨rfl,hw1⟩;have HB1:=H9 (then_ jK.o hw1);clear hw1 HT jK x0 x1 x2 x3 x4 x5 x6;go_wp2_with fail
   refine (HP.o w1).mono ?_;rintro e w2 ⟨word,ps,ao,cap,code,rfl,hM,_,hw2⟩;have ho:=(gQ.o _ _ _ hM).symm;have HB2:=H9 (then_ (then_ HB1.o hw2) ((Below.refl _ w2).alloc (Nat.le_refl _) (.cells #[.string word,.slice ao ps.length cap] 172)));clear hM hw2 HP gQ HB1;generalize ps.length=np at *;go_wp2_with fail
   refine (bB 415 none 0 0 _).mono ?_;rintro e w9 ⟨rfl,hw⟩;rw [hw];clear hw;go_wp2;go_end0
   exact ⟨rfl,HB2.o⟩
theorem pF (id sz sent x en:Int) (note:ByteArray) (uo:Option Addr) (un bP:Nat) (w:World) (hs0:-1≤sz) :
 (0≤sz→x≠sz→Calls prog 128 #[.agg #[.int .i64 id,.int .i64 sz,.string note,.slice uo un bP,.int .i64 sent],.int .i64 x,.int .i64 en] w fun e w'=>lF w (Tu.said 400 []) e w') ∧
 (sz<0→(2000<x∨x<en)→Calls prog 128 #[.agg #[.int .i64 id,.int .i64 sz,.string note,.slice uo un bP,.int .i64 sent],.int .i64 x,.int .i64 en] w fun e w'=>lF w (Tu.said 413 []) e w') ∧
 ((0≤sz∧x=sz)∨(sz<0∧¬ (2000<x∨x<en))→Calls prog 128 #[.agg #[.int .i64 id,.int .i64 sz,.string note,.slice uo un bP,.int .i64 sent],.int .i64 x,.int .i64 en] w fun e w'=>e=.returned (.tuple #[])∧Below w.heap.size w w'):=by
 have bT:=(Below.refl _ w).alloc (Nat.le_refl _) (.cells #[.int .i64 id,.int .i64 sz,.string note,.slice uo un bP,.int .i64 sent] 101);have jK:=H9 bT;have c1:(w.alloc (.cells #[.int .i64 id,.int .i64 sz,.string note,.slice uo un bP,.int .i64 sent] 101)).cell? ⟨w.heap.size,1,none⟩=some (.int .i64 sz):=World.cell?_alloc_mark w _ _ _ 1;clear bT;refine ⟨fun h0 hne=>?_,fun h0 hbad=>?_,fun hok=>?_⟩
 · have t1:(sz != -1)=true:=by rw [bne_iff_ne];omega
   have t2:(x==sz)=false:=by rw [beq_eq_false_iff_ne];exact hne
   clear hne h0 hs0;go_enter func128,ntmps128;go_wp2_with fail
   refine (bF 400 400 rfl _).mono ?_;rintro e w9 hG;obtain ⟨HG,dz,aP,n9,he⟩:=hG.ends jK.o;unfold bC at he;subst he;clear hG;go_wp2;exact ⟨rfl,HG.o⟩
 · obtain rfl:sz=-1:=by omega
   clear h0 hs0;by_cases h2:2000<x
   · have t1:decide (x≤2000)=false:=by rw [decide_eq_false_iff_not];omega
     clear hbad h2;go_enter func128,ntmps128;go_wp2_with fail
     refine (bF 413 413 rfl _).mono ?_;rintro e w9 hG;obtain ⟨HG,dz,aP,n9,he⟩:=hG.ends jK.o;unfold bC at he;subst he;clear hG;go_wp2;exact ⟨rfl,HG.o⟩
   · have t1:decide (x≤2000)=true:=by rw [decide_eq_true_eq];omega
     have t2:decide (x ≥ en)=false:=by rw [decide_eq_false_iff_not];omega
     clear hbad h2;go_enter func128,ntmps128;go_wp2_with fail
     refine (bF 413 413 rfl _).mono ?_;rintro e w9 hG;obtain ⟨HG,dz,aP,n9,he⟩:=hG.ends jK.o;unfold bC at he;subst he;clear hG;go_wp2;exact ⟨rfl,HG.o⟩
 · rcases hok with ⟨h0,rfl⟩ | ⟨h0,h1⟩
   · have t1:(x != -1)=true:=by rw [bne_iff_ne];omega
     have t2:(x==x)=true:=by simp
     clear h0 hs0;go_enter func128,ntmps128;go_wp2_with fail
     refine (bB 400 none 0 0 _).mono ?_;rintro e w9 ⟨rfl,hw⟩;rw [hw];clear hw;go_wp2;first | go_end0 | refine bodyPost_ret (results_none rfl _ _ _) rfl ?_
     exact ⟨rfl,jK.o⟩
   · obtain rfl:sz=-1:=by omega
     have t1:decide (x≤2000)=true:=by rw [decide_eq_true_eq];omega
     have t2:decide (x ≥ en)=true:=by rw [decide_eq_true_eq];omega
     clear h0 hs0 h1;go_enter func128,ntmps128;go_wp2_with fail
     refine (bB 413 none 0 0 _).mono ?_;rintro e w9 ⟨rfl,hw⟩;rw [hw];clear hw;go_wp2;go_end0
     exact ⟨rfl,jK.o⟩
end
section
variable {g:Nat} {m t:ByteArray} {mi ln:Int} {l:List (ByteArray×ByteArray)} {fo:Option Addr} {au nf:Nat} {bo:Option Addr} {aj nb:Nat} {w w0:World} {S:Nat→Prop} {s:Sr.Sh}
theorem NC (h:aU w S g s) (ob oc:Obj):bV aU S w g [.cells #[.pointer (some ⟨g,0,none⟩),.string m,.string t,.int .i64 mi,.slice fo nf au,.int .i64 ln,.slice bo nb aj] 123 (0,0),ob,oc] s (fun k=>S k∧k<w.heap.size) (((w.alloc (.cells #[.pointer (some ⟨g,0,none⟩),.string m,.string t,.int .i64 mi,.slice fo nf au,.int .i64 ln,.slice bo nb aj] 123)).alloc ob).alloc oc):=by
 have hz:((w.alloc (.cells #[.pointer (some ⟨g,0,none⟩),.string m,.string t,.int .i64 mi,.slice fo nf au,.int .i64 ln,.slice bo nb aj] 123)).alloc ob).heap.size=w.heap.size+2:=by rw [World.size_alloc,World.size_alloc]
 exact (Nv h ob).box aW hz (fun k e=>by rw [hz];have:=e.2;omega) _
theorem bV.up {bs:List Obj} {S':Nat→Prop} {s':Sr.Sh} {W:World} {u:Sp.Up} {uo:Option Addr} {un bP:Nat} (h:bV aU S w g (.cells #[.pointer (some ⟨g,0,none⟩),.string m,.string t,.int .i64 mi,.slice fo nf au,.int .i64 ln,.slice bo nb aj] 123 (0,0)::.cells #[.int .i64 u.id,.int .i64 u.size,.string u.note,.slice uo un bP,.int .i64 u.sent] 101 (0,0)::bs) s' S' W):W.cell? ⟨w.heap.size+1,0,none⟩=some (.int .i64 u.id)∧W.cell? ⟨w.heap.size+1,1,none⟩=some (.int .i64 u.size)∧W.cell? ⟨w.heap.size+1,2,none⟩=some (.string u.note)∧W.cell? ⟨w.heap.size+1,3,none⟩=some (.slice uo un bP)∧W.cell? ⟨w.heap.size+1,4,none⟩=some (.int .i64 u.sent):=by
 have r:=h.row 1 rfl;exact ⟨cell_of_row W _ 0 _ _ _ r,cell_of_row W _ 1 _ _ _ r,cell_of_row W _ 2 _ _ _ r,cell_of_row W _ 3 _ _ _ r,cell_of_row W _ 4 _ _ _ r⟩
theorem yE (h:aU w S g s) (ok:Sr.Ok s) (u:Sp.Up) (uo:Option Addr) (un bP:Nat) :
 Calls prog 92 #[.agg #[.pointer (some ⟨g,0,none⟩),.string m,.string t,.int .i64 mi,.slice fo nf au,.int .i64 ln,.slice bo nb aj],.agg #[.int .i64 u.id,.int .i64 u.size,.string u.note,.slice uo un bP,.int .i64 u.sent]] w fun e w'=>gI S w g (Sr.sync (Sr.drop s u.id).1,Tu.said 204 []) e w':=by
 have T3:bV aU S w g [.cells #[.pointer (some ⟨g,0,none⟩),.string m,.string t,.int .i64 mi,.slice fo nf au,.int .i64 ln,.slice bo nb aj] 123 (0,0),.cells #[.int .i64 u.id,.int .i64 u.size,.string u.note,.slice uo un bP,.int .i64 u.sent] 101 (0,0),.cells #[.int .i64 0,.slice none 0 0,.slice none 0 0] 88 (0,0)] s (fun k=>S k∧k<w.heap.size) (((w.alloc (.cells #[.pointer (some ⟨g,0,none⟩),.string m,.string t,.int .i64 mi,.slice fo nf au,.int .i64 ln,.slice bo nb aj] 123)).alloc (.cells #[.int .i64 u.id,.int .i64 u.size,.string u.note,.slice uo un bP,.int .i64 u.sent] 101)).alloc (.cells #[.int .i64 0,.slice none 0 0,.slice none 0 0] 88)):=NC h _ _;have HC:Hid (∀ W s' S',bV aU S w g [.cells #[.pointer (some ⟨g,0,none⟩),.string m,.string t,.int .i64 mi,.slice fo nf au,.int .i64 ln,.slice bo nb aj] 123 (0,0),.cells #[.int .i64 u.id,.int .i64 u.size,.string u.note,.slice uo un bP,.int .i64 u.sent] 101 (0,0),.cells #[.int .i64 0,.slice none 0 0,.slice none 0 0] 88 (0,0)] s' S' W→W.cell? ⟨w.heap.size,0,none⟩=some (.pointer (some ⟨g,0,none⟩))∧W.cell? ⟨w.heap.size,1,none⟩=some (.string m)∧W.cell? ⟨w.heap.size,2,none⟩=some (.string t)∧W.cell? ⟨w.heap.size,3,none⟩=some (.int .i64 mi)∧W.cell? ⟨w.heap.size,4,none⟩=some (.slice fo nf au)∧W.cell? ⟨w.heap.size,5,none⟩=some (.int .i64 ln)∧W.cell? ⟨w.heap.size,6,none⟩=some (.slice bo nb aj)):=fun W s' S' hW=>hW.ex;obtain ⟨x0,x1,x2,x3,x4,x5,x6⟩:=HC.o _ _ _ T3;obtain ⟨v0,v1,v2,v3,v4⟩:=T3.up;have H3:=H9 T3;have Rk:=H9 (ug T3.sh ok u.id);have HD:Hid ((Sr.sync (Sr.drop s u.id).1,Tu.said 204 [])=(Sr.sync (Sr.drop s u.id).1,Tu.said 204 [])):=by unfold Hid;rfl
 obtain ⟨R,hR⟩:∃ R,R=(Sr.sync (Sr.drop s u.id).1,Tu.said 204 []):=⟨_,rfl⟩;rw [←hR];clear HD;have HD:=H9 hR;clear T3 ok h hR;go_enter func92,ntmps92;go_wp2_with fail
 refine Rk.o.mono ?_;rintro e w4 ⟨rfl,Xo,Bo⟩;have H4:=H9 (H3.o.did Xo Bo);clear Xo Bo Rk H3 v0 v1 v2 v3 v4 x0 x1 x2 x3 x4 x5 x6;generalize Sr.drop s u.id=ra at *;obtain ⟨sa,ca⟩:=ra;simp only at HD H4 ⊢;obtain ⟨x0,x1,x2,x3,x4,x5,x6⟩:=HC.o _ _ _ H4.o;have Ga:=H9 (jU H4.o.sh);go_wp2_with fail
 refine Ga.o.mono ?_;rintro e w5 ⟨rfl,qP,rV⟩;have H5:=H9 (H4.o.turned qP rV);have wZ:=H9 (dP 204 204 rfl [] none 0 0 w5 (bS.nil w5) rfl (by decide));clear qP rV Ga H4 x0 x1 x2 x3 x4 x5 x6;go_wp2_with fail
 refine wZ.o.mono ?_;rintro e w9 ⟨dz,aP,n9,rfl,fO,dK,jG⟩;obtain ⟨⟨z0,z1,z2,y0,y1,y2⟩,HE⟩:=H5.o.ends aW (i:=2) rfl (b:=w.heap.size+2) (by first | rfl | omega) (st:=204) (gW:=204) rfl fO (Nat.le_trans (Nat.le_add_right _ _) H5.o.sz) dK jG;clear fO dK jG;go_wp2;generalize (((w9.setCell ⟨w.heap.size+2,0,none⟩ (.int .i64 204)).setCell ⟨w.heap.size+2,1,none⟩ (.slice dz n9 aP)).setCell ⟨w.heap.size+2,2,none⟩ (.slice none 0 0))=wf at *;obtain ⟨q0,q1,q2,q3⟩:=HE.o;refine bodyPost_ret (v:=.agg #[.int .i64 204,.slice dz n9 aP,.slice none 0 0]) (by simp [results,results92,go_sem,q0,q1,q2]) rfl ?_;rw [HD.o];exact gI.of q3
end
section
variable {g:Nat} {m t:ByteArray} {mi ln:Int} {l:List (ByteArray×ByteArray)} {fo:Option Addr} {au nf:Nat} {bo:Option Addr} {aj nb:Nat} {w w0:World} {S:Nat→Prop} {s:Sr.Sh}
theorem sS (name:ByteArray) (hN:name.size≤2000) (h:kI w l fo au nf) :
 ((Tu.bZ (Tu.one (Tu.vals name l))).2=false∧Hid (∀ W,Below w.heap.size w W→Calls prog 127 #[.agg #[.pointer (some ⟨g,0,none⟩),.string m,.string t,.int .i64 mi,.slice fo nf au,.int .i64 ln,.slice bo nb aj],.string name] W fun e w'=>lF W (Tu.said 400 []) e w')) ∨
 (Tu.bZ (Tu.one (Tu.vals name l))=(-1,true)∧Hid (∀ W,Below w.heap.size w W→Calls prog 127 #[.agg #[.pointer (some ⟨g,0,none⟩),.string m,.string t,.int .i64 mi,.slice fo nf au,.int .i64 ln,.slice bo nb aj],.string name] W fun e w'=>e=.returned (.tuple #[.int .i64 0,.bool false])∧Below W.heap.size W w')) ∨
 (∃ x:Int,0≤x∧x<1000000000∧Tu.bZ (Tu.one (Tu.vals name l))=(x,true)∧Hid (∀ W,Below w.heap.size w W→Calls prog 127 #[.agg #[.pointer (some ⟨g,0,none⟩),.string m,.string t,.int .i64 mi,.slice fo nf au,.int .i64 ln,.slice bo nb aj],.string name] W fun e w'=>e=.returned (.tuple #[.int .i64 x,.bool true])∧Below W.heap.size W w')):=by
 by_cases hc:(Tu.one (Tu.vals name l)).2=10
 · exact Or.inr (Or.inl ⟨Tu.AU hc,fun W hW=>vD name hN (h.stay hW) hc⟩)
 · cases hb:(Tu.bZ (Tu.one (Tu.vals name l))).2 with
   | false=>exact Or.inl ⟨rfl,fun W hW=>AL name hN (h.stay hW) hb⟩
   | true =>
     have he:Tu.bZ (Tu.one (Tu.vals name l))=((Tu.bZ (Tu.one (Tu.vals name l))).1,true):=by rw [←hb]
     refine Or.inr (Or.inr ⟨_,Tu.Ef hc he,?_,he,fun W hW=>xZ name hN (h.stay hW) hc he⟩);generalize Tu.one (Tu.vals name l)=r at *;unfold Tu.bZ at hb ⊢;rw [if_neg hc] at hb ⊢;rw [Bool.and_eq_true] at hb;exact (Ch.lH hb.1).2
theorem yF (p:qQ w0 w S) (h:aU w S g s) (ok:Sr.Ok s) (hF:kI w l fo au nf) (body:List UInt8) (hb:body.length=nb) (hB:aT w bo aj body) (hnb:nb≤100000) (u:Sp.Up) (uo:Option Addr) (un bP:Nat) (hun:u.bytes.length=un) (Rh:un≤2000) (hs0:-1≤u.size) :
 Calls prog 91 #[.agg #[.pointer (some ⟨g,0,none⟩),.string m,.string t,.int .i64 mi,.slice fo nf au,.int .i64 ln,.slice bo nb aj],.agg #[.int .i64 u.id,.int .i64 u.size,.string u.note,.slice uo un bP,.int .i64 u.sent]] w fun e w'=>gI S w g (Tu.patch s u l body) e w':=by
 have T3:bV aU S w g [.cells #[.pointer (some ⟨g,0,none⟩),.string m,.string t,.int .i64 mi,.slice fo nf au,.int .i64 ln,.slice bo nb aj] 123 (0,0),.cells #[.int .i64 u.id,.int .i64 u.size,.string u.note,.slice uo un bP,.int .i64 u.sent] 101 (0,0),.cells #[.int .i64 0,.slice none 0 0,.slice none 0 0] 88 (0,0)] s (fun k=>S k∧k<w.heap.size) (((w.alloc (.cells #[.pointer (some ⟨g,0,none⟩),.string m,.string t,.int .i64 mi,.slice fo nf au,.int .i64 ln,.slice bo nb aj] 123)).alloc (.cells #[.int .i64 u.id,.int .i64 u.size,.string u.note,.slice uo un bP,.int .i64 u.sent] 101)).alloc (.cells #[.int .i64 0,.slice none 0 0,.slice none 0 0] 88)):=NC h _ _;have HB3:Hid (Below w.heap.size w (((w.alloc (.cells #[.pointer (some ⟨g,0,none⟩),.string m,.string t,.int .i64 mi,.slice fo nf au,.int .i64 ln,.slice bo nb aj] 123)).alloc (.cells #[.int .i64 u.id,.int .i64 u.size,.string u.note,.slice uo un bP,.int .i64 u.sent] 101)).alloc (.cells #[.int .i64 0,.slice none 0 0,.slice none 0 0] 88))):=then_ (then_ ((Below.refl _ w).alloc (Nat.le_refl _) _) ((Below.refl _ _).alloc (Nat.le_refl _) _)) ((Below.refl _ _).alloc (Nat.le_refl _) _);have HC:Hid (∀ W s' S',bV aU S w g [.cells #[.pointer (some ⟨g,0,none⟩),.string m,.string t,.int .i64 mi,.slice fo nf au,.int .i64 ln,.slice bo nb aj] 123 (0,0),.cells #[.int .i64 u.id,.int .i64 u.size,.string u.note,.slice uo un bP,.int .i64 u.sent] 101 (0,0),.cells #[.int .i64 0,.slice none 0 0,.slice none 0 0] 88 (0,0)] s' S' W→W.cell? ⟨w.heap.size,0,none⟩=some (.pointer (some ⟨g,0,none⟩))∧W.cell? ⟨w.heap.size,1,none⟩=some (.string m)∧W.cell? ⟨w.heap.size,2,none⟩=some (.string t)∧W.cell? ⟨w.heap.size,3,none⟩=some (.int .i64 mi)∧W.cell? ⟨w.heap.size,4,none⟩=some (.slice fo nf au)∧W.cell? ⟨w.heap.size,5,none⟩=some (.int .i64 ln)∧W.cell? ⟨w.heap.size,6,none⟩=some (.slice bo nb aj)):=fun W s' S' hW=>hW.ex;have HU:Hid (∀ W s' S',bV aU S w g [.cells #[.pointer (some ⟨g,0,none⟩),.string m,.string t,.int .i64 mi,.slice fo nf au,.int .i64 ln,.slice bo nb aj] 123 (0,0),.cells #[.int .i64 u.id,.int .i64 u.size,.string u.note,.slice uo un bP,.int .i64 u.sent] 101 (0,0),.cells #[.int .i64 0,.slice none 0 0,.slice none 0 0] 88 (0,0)] s' S' W→W.cell? ⟨w.heap.size+1,0,none⟩=some (.int .i64 u.id)∧W.cell? ⟨w.heap.size+1,1,none⟩=some (.int .i64 u.size)∧W.cell? ⟨w.heap.size+1,2,none⟩=some (.string u.note)∧W.cell? ⟨w.heap.size+1,3,none⟩=some (.slice uo un bP)∧W.cell? ⟨w.heap.size+1,4,none⟩=some (.int .i64 u.sent)):=fun W s' S' hW=>hW.up;have H3:=H9 T3;obtain ⟨x0,x1,x2,x3,x4,x5,x6⟩:=HC.o _ _ _ H3.o;obtain ⟨v0,v1,v2,v3,v4⟩:=HU.o _ _ _ H3.o;have HF:=H9 hF;have kV:=H9 ok;have Es:=H9 p
 have AV:Hid (∀ W,Below w.heap.size w W→aT W bo aj body):=fun W hW=>hB.stay hW;have Rb:=H9 hb;have hN1:=sS (g:=g) (m:=m) (t:=t) (mi:=mi) (ln:=ln) (bo:=bo) (aj:=aj) (nb:=nb) Tu.pK (by decide) hF;have WL:=sS (g:=g) (m:=m) (t:=t) (mi:=mi) (ln:=ln) (bo:=bo) (aj:=aj) (nb:=nb) Tu.zL (by decide) hF;rw [Tu.Tq] at hN1;rw [Tu.qI] at WL;unfold Tu.pK at hN1;unfold Tu.zL at WL;have Cy:Hid (∀ x W,0≤u.size→x≠u.size→Calls prog 128 #[.agg #[.int .i64 u.id,.int .i64 u.size,.string u.note,.slice uo un bP,.int .i64 u.sent],.int .i64 x,.int .i64 ((un:Int)+nb)] W fun e w'=>lF W (Tu.said 400 []) e w'):=fun x W=>(pF u.id u.size u.sent x ((un:Int)+nb) u.note uo un bP W hs0).1;have HS2:Hid (∀ x W,u.size<0→(2000<x∨x<(un:Int)+nb)→Calls prog 128 #[.agg #[.int .i64 u.id,.int .i64 u.size,.string u.note,.slice uo un bP,.int .i64 u.sent],.int .i64 x,.int .i64 ((un:Int)+nb)] W fun e w'=>lF W (Tu.said 413 []) e w'):=fun x W=>(pF u.id u.size u.sent x ((un:Int)+nb) u.note uo un bP W hs0).2.1;have EW:Hid (∀ x W,(0≤u.size∧x=u.size)∨(u.size<0∧¬ (2000<x∨x<(un:Int)+nb))→Calls prog 128 #[.agg #[.int .i64 u.id,.int .i64 u.size,.string u.note,.slice uo un bP,.int .i64 u.sent],.int .i64 x,.int .i64 ((un:Int)+nb)] W fun e w'=>e=.returned (.tuple #[])∧Below W.heap.size W w'):=fun x W=>(pF u.id u.size u.sent x ((un:Int)+nb) u.note uo un bP W hs0).2.2;clear T3 hF ok p h hB;obtain ⟨R,hR⟩:∃ R,R=Tu.patch s u l body:=⟨_,rfl⟩;rw [←hR];unfold Tu.patch at hR;rw [hun,hb] at hR;have HD:=H9 hR;clear hR hun hb;go_enter func91,ntmps91;by_cases WK:(Tu.one (Tu.vals Tu.JH l)).2=9
 · rw [if_pos WK] at HD;have HM:=H9 (Ji (g:=g) (m:=m) (t:=t) (mi:=mi) (ln:=ln) (bo:=bo) (aj:=aj) (nb:=nb) (HF.o.stay HB3.o) WK);clear WK hN1 WL;go_wp2_with fail
   refine (HM.o).mono ?_;rintro e w9 hG;obtain ⟨HE,dz,aP,n9,he⟩:=H3.o.fell hG;unfold bC at he;subst he;clear hG;go_wp2;exact ⟨rfl,by rw [HD.o];exact HE.o⟩
 rw [if_neg WK] at HD;obtain ⟨hm1,hm2⟩:=LJ (g:=g) (m:=m) (t:=t) (mi:=mi) (ln:=ln) (bo:=bo) (aj:=aj) (nb:=nb) (HF.o.stay HB3.o) WK;clear WK;cases hoff:Tu.zN (Tu.one (Tu.vals Tu.JH l)).1 with
 | false =>
   rw [if_pos hoff] at HD;have HM:=H9 (hm1 hoff);clear hm1 hm2 hoff hN1 WL;go_wp2_with fail
   refine (HM.o).mono ?_;rintro e w9 hG;obtain ⟨HE,dz,aP,n9,he⟩:=H3.o.fell hG;unfold bC at he;subst he;clear hG;go_wp2;exact ⟨rfl,by rw [HD.o];exact HE.o⟩
 | true =>
 rw [if_neg (by rw [hoff];simp)] at HD;have HM:=H9 (hm2 hoff);clear hm1 hm2 hoff;go_wp2_with fail
 refine (HM.o).mono ?_;rintro e w4 ⟨rfl,hw⟩;have dx:=H9 (then_ HB3.o hw);have H4:=H9 (H3.o.stay aW hw);clear hw H3 HB3 x0 x1 x2 x3 x4 x5 x6 v0 v1 v2 v3 v4;obtain ⟨x0,x1,x2,x3,x4,x5,x6⟩:=HC.o _ _ _ H4.o;obtain ⟨v0,v1,v2,v3,v4⟩:=HU.o _ _ _ H4.o;clear HM;rcases hN1 with ⟨hx,HN⟩ | ⟨hx,HN⟩ | ⟨x,hx0,hx1,hx,HN⟩
 · rw [if_pos (Or.inl hx)] at HD;clear hx WL;go_wp2_with fail
   refine (HN.o _ dx.o).mono ?_;rintro e w9 hG;obtain ⟨HE,dz,aP,n9,he⟩:=H4.o.fell hG;unfold bC at he;subst he;clear hG;go_wp2;exact ⟨rfl,by rw [HD.o];exact HE.o⟩
 · rw [if_pos (Or.inr (by rw [hx];decide))] at HD;clear hx WL;go_wp2_with fail
   refine (HN.o _ dx.o).mono ?_;rintro e w5 ⟨rfl,hw⟩;have lX:=H9 (then_ dx.o hw);have H5:=H9 (H4.o.stay aW hw);clear hw H4 dx x0 x1 x2 x3 x4 x5 x6 v0 v1 v2 v3 v4;obtain ⟨x0,x1,x2,x3,x4,x5,x6⟩:=HC.o _ _ _ H5.o;obtain ⟨v0,v1,v2,v3,v4⟩:=HU.o _ _ _ H5.o;go_wp2_with fail
   refine (bF 400 400 rfl _).mono ?_;rintro e w9 hG;obtain ⟨HE,dz,aP,n9,he⟩:=H5.o.fell hG;unfold bC at he;subst he;clear hG;go_wp2;exact ⟨rfl,by rw [HD.o];exact HE.o⟩
 rw [if_neg (by rw [hx];exact fun e=>e.elim (fun e=>by cases e) (fun e=>absurd e (by show ¬ x<0;omega)))] at HD;rw [hx] at HD;simp only at HD;clear hx;go_wp2_with fail
 refine (HN.o _ dx.o).mono ?_;rintro e w5 ⟨rfl,hw⟩;have lX:=H9 (then_ dx.o hw);have H5:=H9 (H4.o.stay aW hw);clear hw H4 dx x0 x1 x2 x3 x4 x5 x6 v0 v1 v2 v3 v4;obtain ⟨x0,x1,x2,x3,x4,x5,x6⟩:=HC.o _ _ _ H5.o;obtain ⟨v0,v1,v2,v3,v4⟩:=HU.o _ _ _ H5.o;clear HN;go_wp2_with fail
 refine (bB 400 none 0 0 _).mono ?_;rintro e wq ⟨rfl,hw⟩;rw [hw];clear hw;by_cases hxu:x=(un:Int)
 case neg =>
  rw [if_pos hxu] at HD;have tx:(x==(un:Int))=false:=by rw [beq_eq_false_iff_ne];exact hxu
  clear hxu WL;go_wp2_with fail
  refine (bF 409 409 rfl _).mono ?_;rintro e w9 hG;obtain ⟨HE,dz,aP,n9,he⟩:=H5.o.fell hG;unfold bC at he;subst he;clear hG;go_wp2;exact ⟨rfl,by rw [HD.o];exact HE.o⟩
 rw [if_neg (fun e=>e hxu)] at HD;subst hxu;clear hx0 hx1;go_wp2_with fail
 refine (bB 409 none 0 0 _).mono ?_;rintro e wq ⟨rfl,hw⟩;rw [hw];clear hw;rcases WL with ⟨hy,HN⟩ | ⟨hy,HN⟩ | ⟨y,hy0,hy1,hy,HN⟩
 · rw [if_pos (Or.inl hy)] at HD;clear hy;go_wp2_with fail
   refine (HN.o _ lX.o).mono ?_;rintro e w9 hG;obtain ⟨HE,dz,aP,n9,he⟩:=H5.o.fell hG;unfold bC at he;subst he;clear hG;go_wp2;exact ⟨rfl,by rw [HD.o];exact HE.o⟩
 · have hte:Tu.tell u l↔(0≤(-1:Int)∧u.size<0):=by unfold Tu.tell;rw [hy]
   rw [hy] at HD;simp only at HD;rw [if_neg (fun e=>e.elim (fun e=>by cases e) (fun e=>by have:=e.1;omega)),if_neg (fun e=>by have:=(hte.1 e.1).1;omega)] at HD;have HTe:=H9 hte;clear hy hte;go_wp2_with fail
   refine (HN.o _ lX.o).mono ?_;rintro e w6 ⟨rfl,hw⟩;have qc:=H9 (then_ lX.o hw);have H6:=H9 (H5.o.stay aW hw);clear hw H5 lX x0 x1 x2 x3 x4 x5 x6 v0 v1 v2 v3 v4;obtain ⟨x0,x1,x2,x3,x4,x5,x6⟩:=HC.o _ _ _ H6.o;obtain ⟨v0,v1,v2,v3,v4⟩:=HU.o _ _ _ H6.o;obtain ⟨YC,Bp⟩:∃ b,(decide ((0:Int)≤(nb:Int)+60)&&decide ((nb:Int)+60≤100000 - (s.log.length:Int)))=b:=⟨_,rfl⟩;have eR:YC=false↔100000<s.log.length+(nb+60):=by
    rw [←Bp,Bool.and_eq_false_iff,decide_eq_false_iff_not,decide_eq_false_iff_not];omega
   have LK:=H9 (pE H6.o.sh ((nb:Int)+60));rw [Bp] at LK;clear Bp;go_wp2_with fail
   refine LK.o.mono ?_;rintro e wq ⟨rfl,hw⟩;rw [hw];clear hw;clear LK;cases YC with
   | false =>
     rw [if_pos (eR.1 rfl)] at HD;go_wp2_with fail
     refine (bF 507 507 rfl _).mono ?_;rintro e w9 hG;obtain ⟨HE,dz,aP,n9,he⟩:=H6.o.fell hG;unfold bC at he;subst he;clear hG;go_wp2;exact ⟨rfl,by rw [HD.o];exact HE.o⟩
   | true =>
     rw [if_neg (fun e=>by have:=eR.2 e;cases this)] at HD;clear eR;go_wp2_with fail
     refine (bB 507 none 0 0 _).mono ?_;rintro e wq ⟨rfl,hw⟩;rw [hw];clear hw;have JU:=H9 (lK H6.o.sh kV.o u.id (un:Int) bo nb aj body (AV.o _ qc.o) Rb.o (by omega));have Bq:Hid ((Sr.append s u.id (un:Int) body).2≠0→(Sr.append s u.id (un:Int) body).1=s):=fun e=>by unfold Sr.append at e ⊢;exact Tu.jN e
     have HOa:Hid (Sr.Ok (Sr.append s u.id (un:Int) body).1):=kV.o.append _ _ _;go_wp2_with fail
     refine JU.o.mono ?_;rintro e w20 ⟨rfl,hat,hT⟩;have Br:=H9 (H6.o.did hat hT);clear hat hT JU H6 qc x0 x1 x2 x3 x4 x5 x6 v0 v1 v2 v3 v4;generalize Sr.append s u.id (un:Int) body=ra at *;obtain ⟨sa,ca⟩:=ra;simp only at HD Bq Br HOa ⊢;obtain ⟨x0,x1,x2,x3,x4,x5,x6⟩:=HC.o _ _ _ Br.o;obtain ⟨v0,v1,v2,v3,v4⟩:=HU.o _ _ _ Br.o;by_cases hca:ca=0
     · subst hca;rw [if_neg (by simp)] at HD;clear Bq;go_wp2_with fail
       refine (lG _).mono ?_;rintro e wq ⟨rfl,hw⟩;rw [hw];clear hw;rw [if_neg (fun e=>by have:=(HTe.o.1 e).1;omega)] at HD;have Ga:=H9 (jU Br.o.sh);go_wp2_with fail
       refine Ga.o.mono ?_;rintro e w22 ⟨rfl,qM,lY⟩;have Uz:=H9 (Br.o.turned qM lY);have yG:=H9 (jR Tu.pK (un+nb) ((un:Int)+nb) (by omega) (by omega) w22 (Uz.o.pow Es.o));unfold Tu.pK at yG;generalize Tu.dec (un+nb)=db at *;clear qM lY Ga Br x0 x1 x2 x3 x4 x5 x6 v0 v1 v2 v3 v4;go_wp2_with fail
       refine yG.o.mono ?_;rintro e UA ⟨rfl,hw⟩;have UC:=H9 ((Uz.o.stay aW hw).stay aW ((Below.refl _ UA).alloc (Nat.le_refl _) (.cells #[.string Tu.pK,.string db] 111)));have wZ:=H9 (dP 204 204 rfl [(Tu.pK,db)] (some ⟨UA.heap.size,0,none⟩) 1 1 _ (bS.made UA #[.string Tu.pK,.string db] 1 111 (0,0)) rfl (by decide));unfold Tu.pK at wZ UC;clear hw yG Uz;go_wp2_with fail
       refine wZ.o.mono ?_;rintro e w9 ⟨dz,aP,n9,rfl,fO,dK,jG⟩;obtain ⟨⟨z0,z1,z2,y0,y1,y2⟩,HE⟩:=UC.o.ends aW (i:=2) rfl (b:=w.heap.size+2) (by first | rfl | omega) (st:=204) (gW:=204) rfl fO (Nat.le_trans (Nat.le_add_right _ _) UC.o.sz) dK jG;clear fO dK jG;go_wp2;generalize (((w9.setCell ⟨w.heap.size+2,0,none⟩ (.int .i64 204)).setCell ⟨w.heap.size+2,1,none⟩ (.slice dz n9 aP)).setCell ⟨w.heap.size+2,2,none⟩ (.slice none 0 0))=wf at *;obtain ⟨q0,q1,q2,q3⟩:=HE.o;refine bodyPost_ret (v:=.agg #[.int .i64 204,.slice dz n9 aP,.slice none 0 0]) (by simp [results,results91,go_sem,q0,q1,q2]) rfl ?_;rw [HD.o];exact gI.of q3
     · rw [if_pos hca] at HD;have hsa:=Bq.o hca;subst hsa;have Z6:=H9 (nE ca hca w20);clear hca Bq;go_wp2_with fail
       refine (Z6.o).mono ?_;rintro e w9 hG;obtain ⟨HE,dz,aP,n9,he⟩:=Br.o.fell hG;unfold bC at he;subst he;clear hG;go_wp2;exact ⟨rfl,by rw [HD.o];exact HE.o⟩
 · have hte:Tu.tell u l↔(0≤y∧u.size<0):=by unfold Tu.tell;rw [hy]
   rw [hy] at HD;simp only at HD;have HTe:=H9 hte;clear hy hte;go_wp2_with fail
   refine (HN.o _ lX.o).mono ?_;rintro e w6 ⟨rfl,hw⟩;have qc:=H9 (then_ lX.o hw);have H6:=H9 (H5.o.stay aW hw);clear hw H5 lX x0 x1 x2 x3 x4 x5 x6 v0 v1 v2 v3 v4;obtain ⟨x0,x1,x2,x3,x4,x5,x6⟩:=HC.o _ _ _ H6.o;obtain ⟨v0,v1,v2,v3,v4⟩:=HU.o _ _ _ H6.o;by_cases hsz:u.size<0
   · rw [if_neg (fun e=>e.elim (fun e=>by cases e) (fun e=>by have:=e.2.1;omega))] at HD;by_cases hbad:2000<y∨y<(un:Int)+nb
     · rw [if_pos ⟨HTe.o.2 ⟨hy0,hsz⟩,by simpa using hbad⟩] at HD;have HQ:=H9 (HS2.o y w6 hsz hbad);go_wp2_with fail
       refine (HQ.o).mono ?_;rintro e w9 hG;obtain ⟨HE,dz,aP,n9,he⟩:=H6.o.fell hG;unfold bC at he;subst he;clear hG;go_wp2;exact ⟨rfl,by rw [HD.o];exact HE.o⟩
     · rw [if_neg (fun e=>hbad (by simpa using e.2))] at HD;have HQ:=H9 (EW.o y w6 (Or.inr ⟨hsz,hbad⟩));clear hbad;go_wp2_with fail
       refine (HQ.o).mono ?_;rintro e w7 ⟨rfl,hw⟩;have Ez:=H9 (then_ qc.o hw);have H7:=H9 (H6.o.stay aW hw);clear hw H6 qc x0 x1 x2 x3 x4 x5 x6 v0 v1 v2 v3 v4;obtain ⟨x0,x1,x2,x3,x4,x5,x6⟩:=HC.o _ _ _ H7.o;obtain ⟨v0,v1,v2,v3,v4⟩:=HU.o _ _ _ H7.o;clear HQ;obtain ⟨YC,Bp⟩:∃ b,(decide ((0:Int)≤(nb:Int)+60)&&decide ((nb:Int)+60≤100000 - (s.log.length:Int)))=b:=⟨_,rfl⟩;have eR:YC=false↔100000<s.log.length+(nb+60):=by
        rw [←Bp,Bool.and_eq_false_iff,decide_eq_false_iff_not,decide_eq_false_iff_not];omega
       have LK:=H9 (pE H7.o.sh ((nb:Int)+60));rw [Bp] at LK;clear Bp;go_wp2_with fail
       refine LK.o.mono ?_;rintro e wq ⟨rfl,hw⟩;rw [hw];clear hw;clear LK;cases YC with
       | false =>
         rw [if_pos (eR.1 rfl)] at HD;go_wp2_with fail
         refine (bF 507 507 rfl _).mono ?_;rintro e w9 hG;obtain ⟨HE,dz,aP,n9,he⟩:=H7.o.fell hG;unfold bC at he;subst he;clear hG;go_wp2;exact ⟨rfl,by rw [HD.o];exact HE.o⟩
       | true =>
         rw [if_neg (fun e=>by have:=eR.2 e;cases this)] at HD;clear eR;go_wp2_with fail
         refine (bB 507 none 0 0 _).mono ?_;rintro e wq ⟨rfl,hw⟩;rw [hw];clear hw;have JU:=H9 (lK H7.o.sh kV.o u.id (un:Int) bo nb aj body (AV.o _ Ez.o) Rb.o (by omega));have Bq:Hid ((Sr.append s u.id (un:Int) body).2≠0→(Sr.append s u.id (un:Int) body).1=s):=fun e=>by unfold Sr.append at e ⊢;exact Tu.jN e
         have HOa:Hid (Sr.Ok (Sr.append s u.id (un:Int) body).1):=kV.o.append _ _ _;go_wp2_with fail
         refine JU.o.mono ?_;rintro e w20 ⟨rfl,hat,hT⟩;have Br:=H9 (H7.o.did hat hT);clear hat hT JU H7 Ez x0 x1 x2 x3 x4 x5 x6 v0 v1 v2 v3 v4;generalize Sr.append s u.id (un:Int) body=ra at *;obtain ⟨sa,ca⟩:=ra;simp only at HD Bq Br HOa ⊢;obtain ⟨x0,x1,x2,x3,x4,x5,x6⟩:=HC.o _ _ _ Br.o;obtain ⟨v0,v1,v2,v3,v4⟩:=HU.o _ _ _ Br.o;by_cases hca:ca=0
         · subst hca;rw [if_neg (by simp)] at HD;clear Bq;go_wp2_with fail
           refine (lG _).mono ?_;rintro e wq ⟨rfl,hw⟩;rw [hw];clear hw;rw [if_pos (HTe.o.2 ⟨hy0,hsz⟩)] at HD;have t1:(u.size==-1)=true:=by rw [beq_iff_eq];omega
           have Zu:=H9 (CB Br.o.sh HOa.o u.id y);go_wp2_with fail
           refine Zu.o.mono ?_;rintro e w21 ⟨rfl,hat,hT⟩;have H21:=H9 (Br.o.did hat hT);clear hat hT Zu Br x0 x1 x2 x3 x4 x5 x6 v0 v1 v2 v3 v4;generalize Sr.declare sa u.id y=rd at *;obtain ⟨sd,cd⟩:=rd;simp only at HD H21 ⊢;obtain ⟨x0,x1,x2,x3,x4,x5,x6⟩:=HC.o _ _ _ H21.o;obtain ⟨v0,v1,v2,v3,v4⟩:=HU.o _ _ _ H21.o;have Ga:=H9 (jU H21.o.sh);go_wp2_with fail
           refine Ga.o.mono ?_;rintro e w22 ⟨rfl,qM,lY⟩;have Uz:=H9 (H21.o.turned qM lY);have yG:=H9 (jR Tu.pK (un+nb) ((un:Int)+nb) (by omega) (by omega) w22 (Uz.o.pow Es.o));unfold Tu.pK at yG;generalize Tu.dec (un+nb)=db at *;clear qM lY Ga H21 x0 x1 x2 x3 x4 x5 x6 v0 v1 v2 v3 v4;go_wp2_with fail
           refine yG.o.mono ?_;rintro e UA ⟨rfl,hw⟩;have UC:=H9 ((Uz.o.stay aW hw).stay aW ((Below.refl _ UA).alloc (Nat.le_refl _) (.cells #[.string Tu.pK,.string db] 111)));have wZ:=H9 (dP 204 204 rfl [(Tu.pK,db)] (some ⟨UA.heap.size,0,none⟩) 1 1 _ (bS.made UA #[.string Tu.pK,.string db] 1 111 (0,0)) rfl (by decide));unfold Tu.pK at wZ UC;clear hw yG Uz;go_wp2_with fail
           refine wZ.o.mono ?_;rintro e w9 ⟨dz,aP,n9,rfl,fO,dK,jG⟩;obtain ⟨⟨z0,z1,z2,y0,y1,y2⟩,HE⟩:=UC.o.ends aW (i:=2) rfl (b:=w.heap.size+2) (by first | rfl | omega) (st:=204) (gW:=204) rfl fO (Nat.le_trans (Nat.le_add_right _ _) UC.o.sz) dK jG;clear fO dK jG;go_wp2;generalize (((w9.setCell ⟨w.heap.size+2,0,none⟩ (.int .i64 204)).setCell ⟨w.heap.size+2,1,none⟩ (.slice dz n9 aP)).setCell ⟨w.heap.size+2,2,none⟩ (.slice none 0 0))=wf at *;obtain ⟨q0,q1,q2,q3⟩:=HE.o;refine bodyPost_ret (v:=.agg #[.int .i64 204,.slice dz n9 aP,.slice none 0 0]) (by simp [results,results91,go_sem,q0,q1,q2]) rfl ?_;rw [HD.o];exact gI.of q3
         · rw [if_pos hca] at HD;have hsa:=Bq.o hca;subst hsa;have Z6:=H9 (nE ca hca w20);clear hca Bq;go_wp2_with fail
           refine (Z6.o).mono ?_;rintro e w9 hG;obtain ⟨HE,dz,aP,n9,he⟩:=Br.o.fell hG;unfold bC at he;subst he;clear hG;go_wp2;exact ⟨rfl,by rw [HD.o];exact HE.o⟩
   · have hsz0:0≤u.size:=by omega
     by_cases hne:y=u.size
     · rw [if_neg (fun e=>e.elim (fun e=>by cases e) (fun e=>e.2.2 hne)),if_neg (fun e=>hsz (HTe.o.1 e.1).2)] at HD;have HQ:=H9 (EW.o y w6 (Or.inl ⟨hsz0,hne⟩));clear hne;go_wp2_with fail
       refine (HQ.o).mono ?_;rintro e w7 ⟨rfl,hw⟩;have Ez:=H9 (then_ qc.o hw);have H7:=H9 (H6.o.stay aW hw);clear hw H6 qc x0 x1 x2 x3 x4 x5 x6 v0 v1 v2 v3 v4;obtain ⟨x0,x1,x2,x3,x4,x5,x6⟩:=HC.o _ _ _ H7.o;obtain ⟨v0,v1,v2,v3,v4⟩:=HU.o _ _ _ H7.o;clear HQ;obtain ⟨YC,Bp⟩:∃ b,(decide ((0:Int)≤(nb:Int)+60)&&decide ((nb:Int)+60≤100000 - (s.log.length:Int)))=b:=⟨_,rfl⟩;have eR:YC=false↔100000<s.log.length+(nb+60):=by
        rw [←Bp,Bool.and_eq_false_iff,decide_eq_false_iff_not,decide_eq_false_iff_not];omega
       have LK:=H9 (pE H7.o.sh ((nb:Int)+60));rw [Bp] at LK;clear Bp;go_wp2_with fail
       refine LK.o.mono ?_;rintro e wq ⟨rfl,hw⟩;rw [hw];clear hw;clear LK;cases YC with
       | false =>
         rw [if_pos (eR.1 rfl)] at HD;go_wp2_with fail
         refine (bF 507 507 rfl _).mono ?_;rintro e w9 hG;obtain ⟨HE,dz,aP,n9,he⟩:=H7.o.fell hG;unfold bC at he;subst he;clear hG;go_wp2;exact ⟨rfl,by rw [HD.o];exact HE.o⟩
       | true =>
         rw [if_neg (fun e=>by have:=eR.2 e;cases this)] at HD;clear eR;go_wp2_with fail
         refine (bB 507 none 0 0 _).mono ?_;rintro e wq ⟨rfl,hw⟩;rw [hw];clear hw;have JU:=H9 (lK H7.o.sh kV.o u.id (un:Int) bo nb aj body (AV.o _ Ez.o) Rb.o (by omega));have Bq:Hid ((Sr.append s u.id (un:Int) body).2≠0→(Sr.append s u.id (un:Int) body).1=s):=fun e=>by unfold Sr.append at e ⊢;exact Tu.jN e
         have HOa:Hid (Sr.Ok (Sr.append s u.id (un:Int) body).1):=kV.o.append _ _ _;go_wp2_with fail
         refine JU.o.mono ?_;rintro e w20 ⟨rfl,hat,hT⟩;have Br:=H9 (H7.o.did hat hT);clear hat hT JU H7 Ez x0 x1 x2 x3 x4 x5 x6 v0 v1 v2 v3 v4;generalize Sr.append s u.id (un:Int) body=ra at *;obtain ⟨sa,ca⟩:=ra;simp only at HD Bq Br HOa ⊢;obtain ⟨x0,x1,x2,x3,x4,x5,x6⟩:=HC.o _ _ _ Br.o;obtain ⟨v0,v1,v2,v3,v4⟩:=HU.o _ _ _ Br.o;by_cases hca:ca=0
         · subst hca;rw [if_neg (by simp)] at HD;clear Bq;go_wp2_with fail
           refine (lG _).mono ?_;rintro e wq ⟨rfl,hw⟩;rw [hw];clear hw;have t1:(u.size==-1)=false:=by rw [beq_eq_false_iff_ne];omega
           rw [if_neg (fun e=>by have:=(HTe.o.1 e).2;omega)] at HD;have Ga:=H9 (jU Br.o.sh);go_wp2_with fail
           refine Ga.o.mono ?_;rintro e w22 ⟨rfl,qM,lY⟩;have Uz:=H9 (Br.o.turned qM lY);have yG:=H9 (jR Tu.pK (un+nb) ((un:Int)+nb) (by omega) (by omega) w22 (Uz.o.pow Es.o));unfold Tu.pK at yG;generalize Tu.dec (un+nb)=db at *;clear qM lY Ga Br x0 x1 x2 x3 x4 x5 x6 v0 v1 v2 v3 v4;go_wp2_with fail
           refine yG.o.mono ?_;rintro e UA ⟨rfl,hw⟩;have UC:=H9 ((Uz.o.stay aW hw).stay aW ((Below.refl _ UA).alloc (Nat.le_refl _) (.cells #[.string Tu.pK,.string db] 111)));have wZ:=H9 (dP 204 204 rfl [(Tu.pK,db)] (some ⟨UA.heap.size,0,none⟩) 1 1 _ (bS.made UA #[.string Tu.pK,.string db] 1 111 (0,0)) rfl (by decide));unfold Tu.pK at wZ UC;clear hw yG Uz;go_wp2_with fail
           refine wZ.o.mono ?_;rintro e w9 ⟨dz,aP,n9,rfl,fO,dK,jG⟩;obtain ⟨⟨z0,z1,z2,y0,y1,y2⟩,HE⟩:=UC.o.ends aW (i:=2) rfl (b:=w.heap.size+2) (by first | rfl | omega) (st:=204) (gW:=204) rfl fO (Nat.le_trans (Nat.le_add_right _ _) UC.o.sz) dK jG;clear fO dK jG;go_wp2;generalize (((w9.setCell ⟨w.heap.size+2,0,none⟩ (.int .i64 204)).setCell ⟨w.heap.size+2,1,none⟩ (.slice dz n9 aP)).setCell ⟨w.heap.size+2,2,none⟩ (.slice none 0 0))=wf at *;obtain ⟨q0,q1,q2,q3⟩:=HE.o;refine bodyPost_ret (v:=.agg #[.int .i64 204,.slice dz n9 aP,.slice none 0 0]) (by simp [results,results91,go_sem,q0,q1,q2]) rfl ?_;rw [HD.o];exact gI.of q3
         · rw [if_pos hca] at HD;have hsa:=Bq.o hca;subst hsa;have Z6:=H9 (nE ca hca w20);clear hca Bq;go_wp2_with fail
           refine (Z6.o).mono ?_;rintro e w9 hG;obtain ⟨HE,dz,aP,n9,he⟩:=Br.o.fell hG;unfold bC at he;subst he;clear hG;go_wp2;exact ⟨rfl,by rw [HD.o];exact HE.o⟩
     · rw [if_pos (Or.inr ⟨hy0,hsz0,hne⟩)] at HD;have HQ:=H9 (Cy.o y w6 hsz0 hne);clear hne;go_wp2_with fail
       refine (HQ.o).mono ?_;rintro e w9 hG;obtain ⟨HE,dz,aP,n9,he⟩:=H6.o.fell hG;unfold bC at he;subst he;clear hG;go_wp2;exact ⟨rfl,by rw [HD.o];exact HE.o⟩
end
def Bt:Yc:=fun _ _ _ _=>True
theorem iX:AA Bt:=⟨fun _ _ _=>trivial,fun _ _=>trivial⟩
def Jj:Nat→Prop:=fun _=>False
theorem u7.UD {w w':World} {g:Nat} {s:Sr.Sh} {r:Tu.uD} {e:Ending} (h:u7 Bt Jj w g (s,r) e w'):Ih w r e w':=by
 obtain ⟨⟨ao,cap,n,he,hn,hO⟩,_,hT⟩:=h;exact ⟨ao,cap,n,he,hn,hO,hT.below (fun _ e=>e.elim) (Nat.le_refl _)⟩
theorem YD (w:World) (oa:Obj):bV Bt Jj w 0 [oa] Sr.new (fun k=>Jj k∧k<w.heap.size) (w.alloc oa) :=
 (bV.start (O:=Bt) (S:=Jj) (g:=0) (s:=Sr.new) iX trivial).box iX rfl (fun _ e=>e.1.elim) _
theorem aco (w:World) (oa ob:Obj):bV Bt Jj w 0 [oa,ob] Sr.new (fun k=>Jj k∧k<w.heap.size) ((w.alloc oa).alloc ob):=by
 have hz:(w.alloc oa).heap.size=w.heap.size+1:=World.size_alloc ..;exact (YD w oa).box iX hz (fun _ e=>e.1.elim) _
theorem FP (w:World) (hP:iO w):Calls prog 84 #[] w fun e w'=>Ih w (Tu.said 204 [(Tu.sG,Tu.dF),(Tu.RQ,Tu.qj),(Tu.RS,Tu.RU)]) e w':=by
 have H1:=H9 (YD w (.cells #[.int .i64 0,.slice none 0 0,.slice none 0 0] 88));have HB1:=H9 ((Below.refl _ w).alloc (Nat.le_refl _) (.cells #[.int .i64 0,.slice none 0 0,.slice none 0 0] 88));have UE:=H9 (dX Tu.sG Tu.dF (w.alloc (.cells #[.int .i64 0,.slice none 0 0,.slice none 0 0] 88)));have Es:=H9 hP;clear hP;unfold Tu.sG Tu.dF at UE;go_enter func84,ntmps84;go_wp2_with fail
 refine UE.o.mono ?_;rintro e w2 ⟨rfl,hw2⟩;have H2:=H9 (H1.o.stay iX hw2);have HB2:=H9 (then_ HB1.o hw2);have yG:=H9 (jR Tu.RQ 2000 2000 rfl (by decide) w2 (Es.o.stay HB2.o));rw [show Tu.dec 2000=Tu.qj from by decide +kernel] at yG;unfold Tu.RQ Tu.qj at yG;clear hw2 UE H1 HB1;go_wp2_with fail
 refine yG.o.mono ?_;rintro e w3 ⟨rfl,hw3⟩;have H3:=H9 (H2.o.stay iX hw3);have ZO:=H9 (dX Tu.RS Tu.RU w3);unfold Tu.RS Tu.RU at ZO;clear hw3 yG H2 HB2;go_wp2_with fail
 refine ZO.o.mono ?_;rintro e w4 ⟨rfl,hw4⟩;have H4:=H9 ((H3.o.stay iX hw4).stay iX ((Below.refl _ w4).alloc (Nat.le_refl _) (.cells #[.string Tu.sG,.string Tu.dF,.string Tu.RQ,.string Tu.qj,.string Tu.RS,.string Tu.RU] 111)));have wZ:=H9 (dP 204 204 rfl [(Tu.sG,Tu.dF),(Tu.RQ,Tu.qj),(Tu.RS,Tu.RU)] (some ⟨w4.heap.size,0,none⟩) 3 3 _ (bS.made w4 #[.string Tu.sG,.string Tu.dF,.string Tu.RQ,.string Tu.qj,.string Tu.RS,.string Tu.RU] 3 111 (0,0)) rfl (by decide));unfold Tu.sG Tu.dF Tu.RQ Tu.qj Tu.RS Tu.RU at wZ H4;clear hw4 ZO H3;go_wp2_with fail
 refine wZ.o.mono ?_;rintro e w9 ⟨dz,aP,n9,rfl,fO,dK,jG⟩;obtain ⟨⟨z0,z1,z2,y0,y1,y2⟩,HE⟩:=H4.o.ends iX (i:=0) rfl (b:=w.heap.size) (by first | rfl | omega) (st:=204) (gW:=204) rfl fO (Nat.le_trans (Nat.le_add_right _ _) H4.o.sz) dK jG;clear fO dK jG;go_wp2;generalize (((w9.setCell ⟨w.heap.size,0,none⟩ (.int .i64 204)).setCell ⟨w.heap.size,1,none⟩ (.slice dz n9 aP)).setCell ⟨w.heap.size,2,none⟩ (.slice none 0 0))=wf at *;obtain ⟨q0,q1,q2,q3⟩:=HE.o;refine bodyPost_ret (v:=.agg #[.int .i64 204,.slice dz n9 aP,.slice none 0 0]) (by simp [results,results84,go_sem,q0,q1,q2]) rfl ?_;exact u7.UD (r:=Tu.said 204 [(Tu.sG,Tu.dF),(Tu.RQ,Tu.qj),(Tu.RS,Tu.RU)]) q3
theorem sU (u:Sp.Up) (uo:Option Addr) (un bP:Nat) (hun:u.bytes.length=un) (hs0:-1≤u.size) (hs1:u.size≤2000) (Rh:un≤2000) (w:World) (hP:iO w) :
 Calls prog 90 #[.agg #[.int .i64 u.id,.int .i64 u.size,.string u.note,.slice uo un bP,.int .i64 u.sent]] w fun e w'=>Ih w (Tu.head u) e w':=by
 have T2:=aco w (.cells #[.int .i64 u.id,.int .i64 u.size,.string u.note,.slice uo un bP,.int .i64 u.sent] 101) (.cells #[.int .i64 0,.slice none 0 0,.slice none 0 0] 88);have HC:Hid (∀ W s' S',bV Bt Jj w 0 [.cells #[.int .i64 u.id,.int .i64 u.size,.string u.note,.slice uo un bP,.int .i64 u.sent] 101 (0,0),.cells #[.int .i64 0,.slice none 0 0,.slice none 0 0] 88 (0,0)] s' S' W→W.cell? ⟨w.heap.size,1,none⟩=some (.int .i64 u.size)∧W.cell? ⟨w.heap.size,2,none⟩=some (.string u.note)∧W.cell? ⟨w.heap.size,3,none⟩=some (.slice uo un bP)):=fun W s' S' hW=>by
  have r:=hW.row 0 rfl;exact ⟨cell_of_row W _ 1 _ _ _ r,cell_of_row W _ 2 _ _ _ r,cell_of_row W _ 3 _ _ _ r⟩
 obtain ⟨x1,x2,x3⟩:=HC.o _ _ _ T2;have HB2:Hid (Below w.heap.size w ((w.alloc (.cells #[.int .i64 u.id,.int .i64 u.size,.string u.note,.slice uo un bP,.int .i64 u.sent] 101)).alloc (.cells #[.int .i64 0,.slice none 0 0,.slice none 0 0] 88))):=then_ ((Below.refl _ w).alloc (Nat.le_refl _) _) ((Below.refl _ _).alloc (Nat.le_refl _) _);have H2:=H9 T2;have Es:=H9 hP;have Z7:=H9 hun;clear T2 hun;obtain ⟨sv,hcnt,hsv⟩:∃ sv:ByteArray,Hid (∀ W,Below w.heap.size w W→Calls prog 116 #[.string Tu.zL,.int .i64 u.size] W fun e w'=>e=.returned (.agg #[.string Tu.zL,.string sv])∧Below W.heap.size W w')∧(0≤u.size→sv=Tu.dec u.size.toNat):=by
  by_cases h0:0≤u.size
  · exact ⟨_,fun W hW=>jR Tu.zL u.size.toNat u.size (by omega) (by omega) W (hP.stay hW),fun _=>rfl⟩
  · have e1:u.size=-1:=by omega
    rw [e1];refine ⟨⟨(Lib.itoa (-1)).toArray⟩,fun W hW=>?_,fun e=>absurd e (by omega)⟩;refine Eb Tu.zL _ (-1) W (fun W2 hW2=>?_);refine (Any.strconv_Itoa Tryz.lays171 (-1) (by decide) (by decide) W2 (hP.stay (then_ hW hW2))).mono ?_;rintro e w' ⟨he,k,os,rfl⟩;exact ⟨he,Lib.below_grow _ W2 (Nat.le_refl _) k os⟩
 have JR:=H9 (hcnt.out _ HB2.o);unfold Tu.zL at JR;clear hcnt hP;obtain ⟨pn,pv,hpp⟩:∃ pn pv:ByteArray,(pn,pv)=(if u.size<0 then (Tu.zM,Tu.tH) else (Tu.zL,Tu.dec u.size.toNat)):=⟨_,_,rfl⟩;obtain ⟨R,hR⟩:∃ R,R=Tu.head u:=⟨_,rfl⟩;rw [←hR];have HD:Hid (R=Tu.said 200 ((Tu.pK,Tu.dec un)::(pn,pv)::(Tu.J5,Tu.J6)::(if u.note.size=0 then [] else [(Tu.JI,u.note)]))):=by
  unfold Hid;rw [hR];unfold Tu.head;rw [←hpp,Z7.o]
 have F9:Hid ((pn,pv)=(if u.size<0 then (Tu.zM,Tu.tH) else (Tu.zL,Tu.dec u.size.toNat))):=hpp;have HSv:=H9 hsv;clear hR hpp hsv;go_enter func90,ntmps90;go_wp2_with fail
 refine JR.o.mono ?_;rintro e w3 ⟨rfl,hw3⟩;have H3:=H9 (H2.o.stay iX hw3);have HB3:=H9 (then_ HB2.o hw3);clear hw3 JR H2 HB2 x1 x2 x3;have hb4:=(Below.refl _ w3).alloc (Nat.le_refl _) (.cells #[.string Tu.zL,.string sv] 111);have H4:=H9 (H3.o.stay iX hb4);have dx:=H9 (then_ HB3.o hb4);have HR4:Hid ((w3.alloc (.cells #[.string Tu.zL,.string sv] 111)).heap[w3.heap.size]? = some (.cells #[.string Tu.zL,.string sv] 111 (0,0))):=heap_alloc_new w3 _;have HZ4:Hid (w.heap.size+2≤w3.heap.size):=H3.o.sz;obtain ⟨x1,x2,x3⟩:=HC.o _ _ _ H4.o;unfold Tu.zL at H4 dx HR4;unfold Tu.zL at x1 x2 x3;clear hb4 H3 HB3;go_upto_region 2 with fail
 generalize (w3.alloc (.cells #[.string ⟨#[85,112,108,111,97,100,45,76,101,110,103,116,104]⟩,.string sv] 111))=w4 at *;generalize w3.heap.size=kb at *;obtain ⟨bn,hbn⟩:∃ b,(u.size==-1)=b:=⟨_,rfl⟩;have HBn:Hid (bn=true↔u.size<0):=by
  unfold Hid;rw [←hbn,beq_iff_eq];omega
 go_upto_if 10 with fail
 go_cut [11] (fun _ wd=>bV Bt Jj w 0 [.cells #[.int .i64 u.id,.int .i64 u.size,.string u.note,.slice uo un bP,.int .i64 u.sent] 101 (0,0),.cells #[.int .i64 0,.slice none 0 0,.slice none 0 0] 88 (0,0)] Sr.new (fun k=>Jj k∧k<w.heap.size) wd∧Below w.heap.size w wd∧wd.heap[kb]? = some (.cells #[.string pn,.string pv] 111 (0,0)))
 case first =>
  cases bn with
  | true =>
    have jW:=H9 (dX Tu.zM Tu.tH w4);have hpp:=F9.o;rw [if_pos (HBn.o.1 rfl)] at hpp;injection hpp with hp1 hp2;subst hp1;subst hp2;unfold Tu.zM Tu.tH at jW;go_wp2_with fail
    refine jW.o.mono ?_;rintro e w5 ⟨rfl,FD⟩;have mU:=(FD.block kb (Array.getElem?_eq_some_iff.1 HR4.o).1).trans HR4.o;have c0:=cell_of_row w5 _ 0 _ _ _ mU;have c1:=cell_of_row w5 _ 1 _ _ _ mU
    have y0:=frozen_of_row w5 _ 0 _ _ mU;have y1:=frozen_of_row w5 _ 1 _ _ mU
    simp at c0 c1;have LG:=aJ kb [.string Tu.zM,.string Tu.tH] 0 w5;have HX:Hid (bV Bt Jj w 0 [.cells #[.int .i64 u.id,.int .i64 u.size,.string u.note,.slice uo un bP,.int .i64 u.sent] 101 (0,0),.cells #[.int .i64 0,.slice none 0 0,.slice none 0 0] 88 (0,0)] Sr.new (fun k=>Jj k∧k<w.heap.size) ((w5.setCell ⟨kb,0,none⟩ (.string Tu.zM)).setCell ⟨kb,1,none⟩ (.string Tu.tH))∧Below w.heap.size w ((w5.setCell ⟨kb,0,none⟩ (.string Tu.zM)).setCell ⟨kb,1,none⟩ (.string Tu.tH))∧((w5.setCell ⟨kb,0,none⟩ (.string Tu.zM)).setCell ⟨kb,1,none⟩ (.string Tu.tH)).heap[kb]? = some (.cells #[.string Tu.zM,.string Tu.tH] 111 (0,0))):=by
     have hz:=HZ4.o;have hb:=then_ dx.o FD;exact ⟨(H4.o.stay iX FD).aside iX LG hz (fun e=>e.1.elim),(hb.setCell (p:=⟨kb,0,none⟩) (by show w.heap.size≤kb;omega) _).setCell (p:=⟨kb,1,none⟩) (by show w.heap.size≤kb;omega) _,heap_setCell_same _ _ 1 _ _ (.string Tu.tH) (heap_setCell_same _ _ 0 _ _ (.string Tu.zM) mU)⟩
    unfold Tu.zM Tu.tH at HX;clear FD mU LG jW x1 x2 x3;go_wp2;go_meet;exact HX.o
  | false =>
    have hpp:=F9.o;rw [if_neg (fun e=>by have:=HBn.o.2 e;cases this)] at hpp;injection hpp with hp1 hp2;have hsv:=HSv.o (by
     rcases Int.lt_or_le u.size 0 with e | e
     · have:=HBn.o.2 e;cases this
     · exact e)
    rw [←hp2] at hsv;subst hp1;subst hsv;go_wp2;go_meet;exact ⟨H4.o,dx.o,HR4.o⟩
 case rest =>
  obtain ⟨hT,hB,hr⟩:=hcut;have HT:=H9 hT;have HB:=H9 hB;have HR:=H9 hr
  have hkl:=(Array.getElem?_eq_some_iff.1 hr).1;have JO:Hid (∀ W,Below w.heap.size w W→Calls prog 116 #[.string Tu.pK,.int .i64 (un:Int)] W fun e w'=>e=.returned (.agg #[.string Tu.pK,.string (Tu.dec un)])∧Below W.heap.size W w'):=fun W hW=>jR Tu.pK un un rfl (by omega) W (Es.o.stay hW);have HFc:Hid (∀ W,Calls prog 87 #[.string Tu.J5,.string Tu.J6] W fun e w'=>e=.returned (.agg #[.string Tu.J5,.string Tu.J6])∧Below W.heap.size W w'):=fun W=>dX Tu.J5 Tu.J6 W;have HSs:Hid (∀ W,Below wc.heap.size wc W→W.cell? ⟨w.heap.size,3,none⟩=some (.slice uo un bP)∧W.cell? ⟨kb,0,none⟩=some (.string pn)∧W.cell? ⟨kb,1,none⟩=some (.string pv)):=fun W hW=>by
   have hr':=(hW.block kb hkl).trans HR.o;exact ⟨(HC.o _ _ _ (HT.o.stay iX hW)).2.2,cell_of_row W _ 0 _ _ _ hr',cell_of_row W _ 1 _ _ _ hr'⟩
  generalize Tu.dec un=du at *;have TS:Hid (∀ W,Below wc.heap.size wc W→aD (W.alloc (.cells #[.string Tu.pK,.string du,.string pn,.string pv,.string Tu.J5,.string Tu.J6] 111)) (w.heap.size+2) 111 2 (some ⟨W.heap.size,0,none⟩) 3 3 (aC [(Tu.pK,du),(pn,pv),(Tu.J5,Tu.J6)])∧bV Bt Jj w 0 [.cells #[.int .i64 u.id,.int .i64 u.size,.string u.note,.slice uo un bP,.int .i64 u.sent] 101 (0,0),.cells #[.int .i64 0,.slice none 0 0,.slice none 0 0] 88 (0,0)] Sr.new (fun k=>Jj k∧k<w.heap.size) (W.alloc (.cells #[.string Tu.pK,.string du,.string pn,.string pv,.string Tu.J5,.string Tu.J6] 111))∧Below w.heap.size w (W.alloc (.cells #[.string Tu.pK,.string du,.string pn,.string pv,.string Tu.J5,.string Tu.J6] 111))):=fun W hW=>by
   have h1:=HT.o.stay iX hW;have hba:=(Below.refl _ W).alloc (Nat.le_refl _) (.cells #[.string Tu.pK,.string du,.string pn,.string pv,.string Tu.J5,.string Tu.J6] 111);exact ⟨World.ownsRow_lit W #[.string Tu.pK,.string du,.string pn,.string pv,.string Tu.J5,.string Tu.J6] 3 h1.sz (by decide) rfl,h1.stay iX hba,then_ (then_ HB.o hW) hba⟩
  unfold Tu.pK at JO;unfold Tu.J5 Tu.J6 at HFc;obtain ⟨s0,s1,s2⟩:=HSs.o _ (Below.refl _ _);have HbD:Hid (Below wc.heap.size wc wc.drew):=aA _ _;clear hT hB hr hkl H4 dx HR4 x1 x2 x3 F9 HSv HBn hbn;go_upto_region 4 with fail
  go_cut [4] (fun v4 wd=>∃ (ao:Option Addr) (cap:Nat),v4=.slice ao 3 cap∧aD wd (w.heap.size+2) 111 2 ao cap 3 (aC [(Tu.pK,du),(pn,pv),(Tu.J5,Tu.J6)])∧bV Bt Jj w 0 [.cells #[.int .i64 u.id,.int .i64 u.size,.string u.note,.slice uo un bP,.int .i64 u.sent] 101 (0,0),.cells #[.int .i64 0,.slice none 0 0,.slice none 0 0] 88 (0,0)] Sr.new (fun k=>Jj k∧k<w.heap.size) wd∧Below w.heap.size w wd)
  case first =>
   go_region_held3 (fun W=>W.cell? ⟨w.heap.size,3,none⟩=some (.slice uo un bP)∧W.cell? ⟨kb,0,none⟩=some (.string pn)∧W.cell? ⟨kb,1,none⟩=some (.string pv)) (go_keep) (first
    | (go_at_call 116;refine (JO.o _ (then_ HB.o (by first | with_reducible exact HbF.o | with_reducible exact HbD.o))).mono ?_;rintro e wC ⟨rfl,hC⟩;have hbC:=then_ (by first | with_reducible exact HbF.o | with_reducible exact HbD.o) hC;have HbC:=H9 hbC;obtain ⟨a0,a1,a2⟩:=HSs.o _ hbC;clear hC hbC)
    | (go_at_call 87;refine (HFc.o _).mono ?_;rintro e wF ⟨rfl,hF⟩;have hbF:=then_ (by first | with_reducible exact HbC.o | with_reducible exact HbD.o) hF;have HbF:=H9 hbF;obtain ⟨a0,a1,a2⟩:=HSs.o _ hbF;clear hF hbF))
   all_goals
    go_wp2;go_meet;first
     | exact ⟨_,_,rfl,TS.o _ HbF.o⟩
     | exact ⟨_,_,rfl,TS.o _ HbC.o⟩
  case rest =>
   obtain ⟨ao,cap,rfl,hO,hT,hB⟩:=hcut;have H5:=H9 hT;have lX:=H9 hB;have nP:=H9 hO
   clear hO hT hB TS HbD s0 s1 s2 HSs JO HFc HT HB HR;obtain ⟨x1,x2,x3⟩:=HC.o _ _ _ H5.o;obtain ⟨bm,hbm⟩:∃ b,(u.note.toList==([]:List UInt8))=b:=⟨_,rfl⟩;have eM:u.note.size=0↔bm=true:=by
    rw [←hbm,beq_iff_eq,Lib.toList_data];rw [←List.length_eq_zero_iff,Array.length_toList];exact Iff.rfl
   cases bm with
   | true =>
     rw [if_pos (eM.2 rfl)] at HD;have wZ:=H9 (dP 200 200 rfl [(Tu.pK,du),(pn,pv),(Tu.J5,Tu.J6)] ao cap 3 wc nP.o.jg rfl (by decide));clear eM HC;go_wp2_with fail
     refine wZ.o.mono ?_;rintro e w9 ⟨dz,aP,n9,rfl,fO,dK,jG⟩;obtain ⟨⟨z0,z1,z2,y0,y1,y2⟩,HE⟩:=H5.o.ends iX (i:=1) rfl (b:=w.heap.size+1) (by first | rfl | omega) (st:=200) (gW:=200) rfl fO (Nat.le_trans (Nat.le_add_right _ _) H5.o.sz) dK jG;clear fO dK jG;go_wp2;generalize (((w9.setCell ⟨w.heap.size+1,0,none⟩ (.int .i64 200)).setCell ⟨w.heap.size+1,1,none⟩ (.slice dz n9 aP)).setCell ⟨w.heap.size+1,2,none⟩ (.slice none 0 0))=wf at *;obtain ⟨q0,q1,q2,q3⟩:=HE.o;refine bodyPost_ret (v:=.agg #[.int .i64 200,.slice dz n9 aP,.slice none 0 0]) (by simp [results,results90,go_sem,q0,q1,q2]) rfl ?_;rw [HD.o];exact u7.UD q3
   | false =>
     rw [if_neg (fun e=>by have:=eM.1 e;cases this)] at HD;obtain ⟨i0,hi0,hz0,hz1,hz2⟩:=info_parts mK;have Hi:=H9 hi0;have eU:=H9 hz0;have dZ:=H9 hz1;have eX:=H9 hz2
     have HFm:=H9 (dX Tu.JI u.note wc);unfold Tu.JI at HFm;clear eM HC hi0 hz0 hz1 hz2;go_wp2_with fail
     refine HFm.o.mono ?_;rintro e w6 ⟨rfl,hw6⟩;have hba:=(Below.refl _ w6).alloc (Nat.le_refl _) (.cells #[.string Tu.JI,.string u.note] 111);have H6:=H9 ((H5.o.stay iX hw6).stay iX hba);have sK:=H9 ((nP.o.stay hw6).alloc (.cells #[.string Tu.JI,.string u.note] 111));have HZ6:Hid (w.heap.size+2≤(w6.alloc (.cells #[.string Tu.JI,.string u.note] 111)).heap.size):=H6.o.sz;have HP6:Hid (∀ (ao7:Option Addr) (Fu:Nat) (w7:World),(w6.alloc (.cells #[.string Tu.JI,.string u.note] 111)).grownBy w7 (ak ao)→bV Bt Jj w 0 [.cells #[.int .i64 u.id,.int .i64 u.size,.string u.note,.slice uo un bP,.int .i64 u.sent] 101 (0,0),.cells #[.int .i64 0,.slice none 0 0,.slice none 0 0] 88 (0,0)] Sr.new (fun k=>Jj k∧k<w.heap.size) w7):=fun ao7 Fu w7 hG=>by
      cases ao with
      | none=>exact H6.o.stay iX ((Below.refl _ _).grown hG (Nat.le_refl _) (fun q e=>by cases e))
      | some a =>
        have hab:=(sK.o.block a rfl).1;exact H6.o.aside iX (b:=a.block) (Turns.bI hG (fun k e=>by injection e with e;exact e.symm)) hab (fun e=>e.1.elim)
     unfold Tu.JI at H6 sK HZ6 HP6;clear hw6 hba HFm H5 nP x1 x2 x3;go_wp2_with (at_builtin;refine aB rfl (.tmp 22) (.tmp 26) 66 rfl (w.heap.size+2) 111 i0 (.agg #[.string ⟨#[]⟩,.string ⟨#[]⟩]) 2 32 underlying66 Hi.o eU.o dZ.o eX.o rfl (by decide) rfl sK.o rfl (bS.made w6 _ 1 _ _) rfl (KH _ _) (by decide) (by decide) HZ6.o ?_;intro ao7 Fu w7 Yy Xp _;have H7:=H9 (HP6.o ao7 Fu w7 Xp);have wZ:=H9 (dP 200 200 rfl [(Tu.pK,du),(pn,pv),(Tu.J5,Tu.J6),(Tu.JI,u.note)] ao7 Fu 4 w7 Yy.jg rfl (by decide));clear Yy Xp HP6 sK H6 HZ6)
     refine wZ.o.mono ?_;rintro e w9 ⟨dz,aP,n9,rfl,fO,dK,jG⟩;obtain ⟨⟨z0,z1,z2,y0,y1,y2⟩,HE⟩:=H7.o.ends iX (i:=1) rfl (b:=w.heap.size+1) (by first | rfl | omega) (st:=200) (gW:=200) rfl fO (Nat.le_trans (Nat.le_add_right _ _) H7.o.sz) dK jG;clear fO dK jG;go_wp2;generalize (((w9.setCell ⟨w.heap.size+1,0,none⟩ (.int .i64 200)).setCell ⟨w.heap.size+1,1,none⟩ (.slice dz n9 aP)).setCell ⟨w.heap.size+1,2,none⟩ (.slice none 0 0))=wf at *;obtain ⟨q0,q1,q2,q3⟩:=HE.o;refine bodyPost_ret (v:=.agg #[.int .i64 200,.slice dz n9 aP,.slice none 0 0]) (by simp [results,results90,go_sem,q0,q1,q2]) rfl ?_;rw [HD.o];exact u7.UD q3
section
variable {g:Nat} {m t:ByteArray} {mi ln:Int} {l:List (ByteArray×ByteArray)} {fo:Option Addr} {au nf:Nat} {bo:Option Addr} {aj nb:Nat} {w w0:World} {S:Nat→Prop} {s:Sr.Sh}
theorem Jk (p:qQ w0 w S) (h:aU w S g s) (ok:Sr.Ok s) (hF:kI w l fo au nf) :
 Calls prog 88 #[.agg #[.pointer (some ⟨g,0,none⟩),.string m,.string t,.int .i64 mi,.slice fo nf au,.int .i64 ln,.slice bo nb aj]] w fun e w'=>gI S w g (Tu.post s m l) e w':=by
 have T2:bV aU S w g [.cells #[.pointer (some ⟨g,0,none⟩),.string m,.string t,.int .i64 mi,.slice fo nf au,.int .i64 ln,.slice bo nb aj] 123 (0,0),.cells #[.int .i64 0,.slice none 0 0,.slice none 0 0] 88 (0,0)] s (fun k=>S k∧k<w.heap.size) ((w.alloc (.cells #[.pointer (some ⟨g,0,none⟩),.string m,.string t,.int .i64 mi,.slice fo nf au,.int .i64 ln,.slice bo nb aj] 123)).alloc (.cells #[.int .i64 0,.slice none 0 0,.slice none 0 0] 88)):=Nv h _;have HB2:Hid (Below w.heap.size w ((w.alloc (.cells #[.pointer (some ⟨g,0,none⟩),.string m,.string t,.int .i64 mi,.slice fo nf au,.int .i64 ln,.slice bo nb aj] 123)).alloc (.cells #[.int .i64 0,.slice none 0 0,.slice none 0 0] 88))):=then_ ((Below.refl _ w).alloc (Nat.le_refl _) _) ((Below.refl _ _).alloc (Nat.le_refl _) _);have HC:Hid (∀ W s' S',bV aU S w g [.cells #[.pointer (some ⟨g,0,none⟩),.string m,.string t,.int .i64 mi,.slice fo nf au,.int .i64 ln,.slice bo nb aj] 123 (0,0),.cells #[.int .i64 0,.slice none 0 0,.slice none 0 0] 88 (0,0)] s' S' W→W.cell? ⟨w.heap.size,0,none⟩=some (.pointer (some ⟨g,0,none⟩))∧W.cell? ⟨w.heap.size,1,none⟩=some (.string m)∧W.cell? ⟨w.heap.size,2,none⟩=some (.string t)∧W.cell? ⟨w.heap.size,3,none⟩=some (.int .i64 mi)∧W.cell? ⟨w.heap.size,4,none⟩=some (.slice fo nf au)∧W.cell? ⟨w.heap.size,5,none⟩=some (.int .i64 ln)∧W.cell? ⟨w.heap.size,6,none⟩=some (.slice bo nb aj)):=fun W s' S' hW=>hW.ex;obtain ⟨x0,x1,x2,x3,x4,x5,x6⟩:=HC.o _ _ _ T2;have H2:=H9 T2;have HF:=H9 hF;have kV:=H9 ok;have Es:=H9 p
 clear T2 hF ok p h;obtain ⟨R,hR⟩:∃ R,R=Tu.post s m l:=⟨_,rfl⟩;rw [←hR];unfold Tu.post at hR;have HD:=H9 hR;clear hR;obtain ⟨bp,hbp⟩:∃ b,(m.toList==([80,79,83,84]:List UInt8))=b:=⟨_,rfl⟩;have eP:m=Tu.Du↔bp=true:=by rw [←hbp];exact Tu.Vw m Tu.Du _ rfl
 go_enter func88,ntmps88;cases bp with
 | false =>
   rw [if_pos (fun e=>by have:=eP.1 e;cases this)] at HD;go_wp2_with fail
   refine (bF 405 405 rfl _).mono ?_;rintro e w9 hG;obtain ⟨HE,dz,aP,n9,he⟩:=H2.o.fell hG;unfold bC at he;subst he;clear hG;go_wp2;exact ⟨rfl,by rw [HD.o];exact HE.o⟩
 | true =>
   rw [if_neg (fun e=>e (eP.2 rfl))] at HD;clear eP;go_wp2_with fail
   refine (bB 405 none 0 0 _).mono ?_;rintro e wq ⟨rfl,hw⟩;rw [hw];clear hw;cases hnn:(Tu.bZ (Tu.one (Tu.vals Tu.zK l))).2 with
   | false =>
     rw [if_pos hnn] at HD;have yT:=H9 (O6 (g:=g) (m:=m) (t:=t) (mi:=mi) (ln:=ln) (bo:=bo) (aj:=aj) (nb:=nb) (HF.o.stay HB2.o) hnn);clear hnn;go_wp2_with fail
     refine (yT.o).mono ?_;rintro e w9 hG;obtain ⟨HE,dz,aP,n9,he⟩:=H2.o.fell hG;unfold bC at he;subst he;clear hG;go_wp2;exact ⟨rfl,by rw [HD.o];exact HE.o⟩
   | true =>
     rw [if_neg (by rw [hnn];simp)] at HD;obtain ⟨hsz1,hsz2⟩:=O7 (g:=g) (m:=m) (t:=t) (mi:=mi) (ln:=ln) (bo:=bo) (aj:=aj) (nb:=nb) (HF.o.stay HB2.o) hnn;clear hnn;by_cases hbad:Tu.rU l
     · have yT:=H9 (hsz1 hbad);unfold Tu.rU at hbad;rw [if_pos hbad] at HD;clear hsz1 hsz2 hbad;go_wp2_with fail
       refine (yT.o).mono ?_;rintro e w9 hG;obtain ⟨HE,dz,aP,n9,he⟩:=H2.o.fell hG;unfold bC at he;subst he;clear hG;go_wp2;exact ⟨rfl,by rw [HD.o];exact HE.o⟩
     · have yT:=H9 (hsz2 hbad);unfold Tu.rU at hbad;rw [if_neg hbad] at HD;clear hsz1 hsz2 hbad;generalize (Tu.bZ (Tu.one (Tu.vals Tu.zK l))).1=n at *;go_wp2_with fail
       refine yT.o.mono ?_;rintro e w3 ⟨rfl,hw3⟩;have HB3:=H9 (then_ HB2.o hw3);have H3:=H9 (H2.o.stay aW hw3);clear hw3 yT x0 x1 x2 x3 x4 x5 x6;obtain ⟨x0,x1,x2,x3,x4,x5,x6⟩:=HC.o _ _ _ H3.o;have hzm:=HF.o.val Tu.Y3;generalize hvm:Tu.one (Tu.vals Tu.Y3 l)=rm at *;obtain ⟨vm,cm⟩:=rm;simp only at hzm HD;by_cases Z8:cm=9
       · subst Z8;rw [if_pos rfl] at HD;have HT:=H9 (mM (g:=g) (m:=m) (t:=t) (mi:=mi) (ln:=ln) (bo:=bo) (aj:=aj) (nb:=nb) Tu.JI (by decide) (HF.o.stay HB3.o) (by rw [Tu.Ik];exact hvm));unfold Tu.JI at HT;clear hvm hzm;go_wp2_with fail
         refine (HT.o).mono ?_;rintro e w9 hG;obtain ⟨HE,dz,aP,n9,he⟩:=H3.o.fell hG;unfold bC at he;subst he;clear hG;go_wp2;exact ⟨rfl,by rw [HD.o];exact HE.o⟩
       · rw [if_neg Z8] at HD;have HT:=H9 (jS (g:=g) (m:=m) (t:=t) (mi:=mi) (ln:=ln) (bo:=bo) (aj:=aj) (nb:=nb) Tu.JI (by decide) (HF.o.stay HB3.o) (by rw [Tu.Ik];exact hvm) Z8);unfold Tu.JI at HT;clear hvm Z8;generalize decide (cm=0)=cb at *;have hzz:(Sr.Vu vm).size≤1000000:=by rw [Sr.RG];omega
         rw [show (⟨vm.toArray⟩:ByteArray)=Sr.Vu vm from rfl] at HT;have Bq:Hid ((Sr.create s n (Sr.Vu vm)).2≠0→(Sr.create s n (Sr.Vu vm)).1=s):=fun e=>by unfold Sr.create at e ⊢;exact Tu.jN e
         generalize Sr.Vu vm=mb at *;clear hzm;go_wp2_with fail
         refine HT.o.mono ?_;rintro e w4 ⟨rfl,hw4⟩;have dx:=H9 (then_ HB3.o hw4);have H4:=H9 (H3.o.stay aW hw4);clear hw4 HT H3 x0 x1 x2 x3 x4 x5 x6;obtain ⟨x0,x1,x2,x3,x4,x5,x6⟩:=HC.o _ _ _ H4.o;have Ri:=H9 (vL H4.o.sh kV.o n mb hzz);clear hzz;go_wp2_with fail
         refine Ri.o.mono ?_;rintro e w5 ⟨rfl,hat,hT⟩;have H5:=H9 (H4.o.did hat hT);clear hat hT Ri H4 x0 x1 x2 x3 x4 x5 x6;generalize Sr.create s n mb=ra at *;obtain ⟨sa,ca⟩:=ra;simp only at HD Bq H5 ⊢;obtain ⟨x0,x1,x2,x3,x4,x5,x6⟩:=HC.o _ _ _ H5.o;by_cases hca:ca=0
         · subst hca;rw [if_neg (by simp)] at HD;have Z9:=kV.o.h.zD;have aac:=kV.o.Gn;have Iy:Sr.zJ s 0=s.h.last+1:=by unfold Sr.zJ;rw [if_pos rfl]
           rw [Iy];clear Iy;have ZB:Hid (∀ W,iO W→Calls prog 122 #[.int .i64 (s.h.last+1)] W fun e w'=>e=.returned (.string (Tu.dec (s.h.last+1).toNat))∧Below W.heap.size W w'):=fun W hW=>by
            have:=og (s.h.last+1).toNat (by omega) W hW;rw [show (((s.h.last+1).toNat:Nat):Int)=s.h.last+1 from by omega] at this;exact this
           have hdz:(Tu.dec (s.h.last+1).toNat).size≤9:=by
            show (Ch.dh 8 _).toArray.size≤9;rw [List.size_toArray];have:=Ch.dN 8 (s.h.last+1).toNat;omega
           generalize Tu.dec (s.h.last+1).toNat=db at *;generalize s.h.last+1=lid at *;clear Z9 aac;go_wp2_with fail
           refine (lG _).mono ?_;rintro e wq ⟨rfl,hw⟩;rw [hw];clear hw;have Ga:=H9 (jU H5.o.sh);go_wp2_with fail
           refine Ga.o.mono ?_;rintro e w6 ⟨rfl,qM,lY⟩;have H6:=H9 (H5.o.turned qM lY);clear qM lY Ga H5 x0 x1 x2 x3 x4 x5 x6;have HI6:=H9 (ZB.o w6 (H6.o.pow Es.o));go_wp2_with fail
           refine HI6.o.mono ?_;rintro e w7 ⟨rfl,hw7⟩;have H7:=H9 (H6.o.stay aW hw7);clear hw7 HI6 ZB H6;have jW:=H9 (dX Tu.Y4 (Tu.fZ++db) w7);unfold Tu.Y4 Tu.fZ at jW;go_wp2_with fail
           refine jW.o.mono ?_;rintro e w8 ⟨rfl,hw8⟩;have H8:=H9 ((H7.o.stay aW hw8).stay aW ((Below.refl _ w8).alloc (Nat.le_refl _) (.cells #[.string Tu.Y4,.string (Tu.fZ++db)] 111)));have wZ:=H9 (dP 201 201 rfl [(Tu.Y4,Tu.fZ++db)] (some ⟨w8.heap.size,0,none⟩) 1 1 _ (bS.made w8 #[.string Tu.Y4,.string (Tu.fZ++db)] 1 111 (0,0)) rfl (by decide));unfold Tu.Y4 Tu.fZ at wZ H8;clear hw8 jW H7;go_wp2_with fail
           refine wZ.o.mono ?_;rintro e w9 ⟨dz,aP,n9,rfl,fO,dK,jG⟩;obtain ⟨⟨z0,z1,z2,y0,y1,y2⟩,HE⟩:=H8.o.ends aW (i:=1) rfl (b:=w.heap.size+1) (by first | rfl | omega) (st:=201) (gW:=201) rfl fO (Nat.le_trans (Nat.le_add_right _ _) H8.o.sz) dK jG;clear fO dK jG;go_wp2;generalize (((w9.setCell ⟨w.heap.size+1,0,none⟩ (.int .i64 201)).setCell ⟨w.heap.size+1,1,none⟩ (.slice dz n9 aP)).setCell ⟨w.heap.size+1,2,none⟩ (.slice none 0 0))=wf at *;obtain ⟨q0,q1,q2,q3⟩:=HE.o;refine bodyPost_ret (v:=.agg #[.int .i64 201,.slice dz n9 aP,.slice none 0 0]) (by simp [results,results88,go_sem,q0,q1,q2]) rfl ?_;rw [HD.o];exact gI.of q3
         · rw [if_pos hca] at HD;have hsa:=Bq.o hca;subst hsa;have Z6:=H9 (nE ca hca w5);clear hca Bq;generalize Sr.zJ sa ca=nn at *;go_wp2_with fail
           refine (Z6.o).mono ?_;rintro e w9 hG;obtain ⟨HE,dz,aP,n9,he⟩:=H5.o.fell hG;unfold bC at he;subst he;clear hG;go_wp2;exact ⟨rfl,by rw [HD.o];exact HE.o⟩
end
section
variable {g:Nat} {m t:ByteArray} {mi ln:Int} {l:List (ByteArray×ByteArray)} {fo:Option Addr} {au nf:Nat} {bo:Option Addr} {aj nb:Nat} {w w0:World} {S:Nat→Prop} {s:Sr.Sh}
theorem bV.pw {O:Yc} {S':Nat→Prop} {bs:List Obj} {W:World} (h:bV O S w g bs s S' W) (p:qQ w0 w S):qQ w0 W S' :=
 ⟨p.pow, p.p8.trans (h.tu.below (fun k e => p.far k e.1) p.p8.size), fun k e => by
  have hz:=p.p8.size;rcases h.ap k e with h2 | h2
  · exact p.far k h2.1
  · omega⟩
theorem LM (p:qQ w0 w S) (h:aU w S g s) (ok:Sr.Ok s) (hF:kI w l fo au nf) (body:List UInt8) (hb:body.length=nb) (hB:aT w bo aj body) (hnb:nb≤100000) (ht:t.size≤100000) :
 Calls prog 51 #[.agg #[.pointer (some ⟨g,0,none⟩),.string m,.string t,.int .i64 mi,.slice fo nf au,.int .i64 ln,.slice bo nb aj]] w fun e w'=>gI S w g (Tu.aS s m t l body) e w':=by
 have T2:bV aU S w g [.cells #[.pointer (some ⟨g,0,none⟩),.string m,.string t,.int .i64 mi,.slice fo nf au,.int .i64 ln,.slice bo nb aj] 123 (0,0),.cells #[.int .i64 0,.slice none 0 0,.slice none 0 0] 88 (0,0)] s (fun k=>S k∧k<w.heap.size) ((w.alloc (.cells #[.pointer (some ⟨g,0,none⟩),.string m,.string t,.int .i64 mi,.slice fo nf au,.int .i64 ln,.slice bo nb aj] 123)).alloc (.cells #[.int .i64 0,.slice none 0 0,.slice none 0 0] 88)):=Nv h _;have HB2:Hid (Below w.heap.size w ((w.alloc (.cells #[.pointer (some ⟨g,0,none⟩),.string m,.string t,.int .i64 mi,.slice fo nf au,.int .i64 ln,.slice bo nb aj] 123)).alloc (.cells #[.int .i64 0,.slice none 0 0,.slice none 0 0] 88))):=then_ ((Below.refl _ w).alloc (Nat.le_refl _) _) ((Below.refl _ _).alloc (Nat.le_refl _) _);have HC:Hid (∀ W s' S',bV aU S w g [.cells #[.pointer (some ⟨g,0,none⟩),.string m,.string t,.int .i64 mi,.slice fo nf au,.int .i64 ln,.slice bo nb aj] 123 (0,0),.cells #[.int .i64 0,.slice none 0 0,.slice none 0 0] 88 (0,0)] s' S' W→W.cell? ⟨w.heap.size,0,none⟩=some (.pointer (some ⟨g,0,none⟩))∧W.cell? ⟨w.heap.size,1,none⟩=some (.string m)∧W.cell? ⟨w.heap.size,2,none⟩=some (.string t)∧W.cell? ⟨w.heap.size,3,none⟩=some (.int .i64 mi)∧W.cell? ⟨w.heap.size,4,none⟩=some (.slice fo nf au)∧W.cell? ⟨w.heap.size,5,none⟩=some (.int .i64 ln)∧W.cell? ⟨w.heap.size,6,none⟩=some (.slice bo nb aj)):=fun W s' S' hW=>hW.ex;obtain ⟨x0,x1,x2,x3,x4,x5,x6⟩:=HC.o _ _ _ T2;have H2:=H9 T2;have HF:=H9 hF;have kV:=H9 ok;have Es:=H9 p;have AV:=H9 hB;have Rb:=H9 hb
 clear T2 hF ok p h hB hb;obtain ⟨R,hR⟩:∃ R,R=Tu.aS s m t l body:=⟨_,rfl⟩;rw [←hR];unfold Tu.aS at hR;have HD:=H9 hR;clear hR;obtain ⟨bf,hbf⟩:∃ b,(t.toList==([47,102,105,108,101,115]:List UInt8))=b:=⟨_,rfl⟩;have eF:t=Tu.nL↔bf=true:=by rw [←hbf];exact Tu.Vw t Tu.nL _ rfl
 obtain ⟨bo_,aga⟩:∃ b,(m.toList==([79,80,84,73,79,78,83]:List UInt8))=b:=⟨_,rfl⟩;have eO:m=Tu.Y2↔bo_=true:=by rw [←aga];exact Tu.Vw m Tu.Y2 _ rfl
 go_enter func51,ntmps51;cases bf with
 | true =>
   have HTf:=H9 (eF.2 rfl);cases bo_ with
   | true =>
     rw [if_pos ⟨eF.2 rfl,eO.2 rfl⟩] at HD;have HOp:Hid (Calls prog 84 #[] ((w.alloc (.cells #[.pointer (some ⟨g,0,none⟩),.string m,.string t,.int .i64 mi,.slice fo nf au,.int .i64 ln,.slice bo nb aj] 123)).alloc (.cells #[.int .i64 0,.slice none 0 0,.slice none 0 0] 88)) fun e w'=>∃ (ao:Option Addr) (cap k:Nat),e=.returned (.agg #[.int .i64 204,.slice ao k cap,.slice none 0 0])∧(Tu.said 204 [(Tu.sG,Tu.dF),(Tu.RQ,Tu.qj),(Tu.RS,Tu.RU)]).2.length=k∧aD w' ((w.alloc (.cells #[.pointer (some ⟨g,0,none⟩),.string m,.string t,.int .i64 mi,.slice fo nf au,.int .i64 ln,.slice bo nb aj] 123)).alloc (.cells #[.int .i64 0,.slice none 0 0,.slice none 0 0] 88)).heap.size 111 2 ao cap k (aC (Tu.said 204 [(Tu.sG,Tu.dF),(Tu.RQ,Tu.qj),(Tu.RS,Tu.RU)]).2)∧Below ((w.alloc (.cells #[.pointer (some ⟨g,0,none⟩),.string m,.string t,.int .i64 mi,.slice fo nf au,.int .i64 ln,.slice bo nb aj] 123)).alloc (.cells #[.int .i64 0,.slice none 0 0,.slice none 0 0] 88)).heap.size ((w.alloc (.cells #[.pointer (some ⟨g,0,none⟩),.string m,.string t,.int .i64 mi,.slice fo nf au,.int .i64 ln,.slice bo nb aj] 123)).alloc (.cells #[.int .i64 0,.slice none 0 0,.slice none 0 0] 88)) w'):=FP _ (H2.o.pow Es.o);clear eF eO;go_wp2_with fail
     refine HOp.o.mono ?_;rintro e w9 ⟨dz,aP,n9,rfl,fO,dK,jG⟩;obtain ⟨⟨z0,z1,z2,y0,y1,y2⟩,HE⟩:=H2.o.ends aW (i:=1) rfl (b:=w.heap.size+1) (by first | rfl | omega) (st:=204) (gW:=204) rfl fO (Nat.le_trans (Nat.le_add_right _ _) H2.o.sz) dK jG;clear fO dK jG;go_wp2;generalize (((w9.setCell ⟨w.heap.size+1,0,none⟩ (.int .i64 204)).setCell ⟨w.heap.size+1,1,none⟩ (.slice dz n9 aP)).setCell ⟨w.heap.size+1,2,none⟩ (.slice none 0 0))=wf at *;obtain ⟨q0,q1,q2,q3⟩:=HE.o;refine bodyPost_ret (v:=.agg #[.int .i64 204,.slice dz n9 aP,.slice none 0 0]) (by simp [results,results51,go_sem,q0,q1,q2]) rfl ?_;rw [HD.o];exact gI.of q3
   | false =>
     rw [if_neg (fun e=>by have:=eO.1 e.2;cases this)] at HD;clear eF eO;have yt:=HF.o.val Tu.VX;generalize ND:Tu.one (Tu.vals Tu.VX l)=rr at *;obtain ⟨vr,cr⟩:=rr;simp only at yt HD;by_cases NG:cr=9
     · subst NG;rw [if_pos rfl] at HD;have HT:=H9 (mM (g:=g) (m:=m) (t:=t) (mi:=mi) (ln:=ln) (bo:=bo) (aj:=aj) (nb:=nb) Tu.wE (by decide) (HF.o.stay HB2.o) (by rw [Tu.oq];exact ND));unfold Tu.wE at HT;clear ND yt;go_wp2_with fail
       refine (HT.o).mono ?_;rintro e w9 hG;obtain ⟨HE,dz,aP,n9,he⟩:=H2.o.fell hG;unfold bC at he;subst he;clear hG;go_wp2;exact ⟨rfl,by rw [HD.o];exact HE.o⟩
     rw [if_neg NG] at HD;have HT:=H9 (jS (g:=g) (m:=m) (t:=t) (mi:=mi) (ln:=ln) (bo:=bo) (aj:=aj) (nb:=nb) Tu.wE (by decide) (HF.o.stay HB2.o) (by rw [Tu.oq];exact ND) NG);unfold Tu.wE at HT;clear ND yt NG;generalize decide (cr=0)=cb at *;obtain ⟨bv,hbv⟩:∃ b,((⟨vr.toArray⟩:ByteArray).toList==([49,46,48,46,48]:List UInt8))=b:=⟨_,rfl⟩;have eV:vr=Tu.dF.data.toList↔bv=true:=by rw [←hbv];exact Tu.eqV vr _
     generalize (⟨vr.toArray⟩:ByteArray)=vb at *;go_wp2_with fail
     refine (HT.o).mono ?_;rintro e w3 ⟨rfl,hw⟩;have HB3:=H9 (then_ HB2.o hw);have H3:=H9 (H2.o.stay aW hw);clear hw H2 HB2 x0 x1 x2 x3 x4 x5 x6;obtain ⟨x0,x1,x2,x3,x4,x5,x6⟩:=HC.o _ _ _ H3.o;clear HT;have jW:=H9 (dX Tu.sG Tu.dF w3);unfold Tu.sG Tu.dF at jW;go_wp2_with fail
     refine jW.o.mono ?_;rintro e w4 ⟨rfl,hw⟩;have hba:=(Below.refl _ w4).alloc (Nat.le_refl _) (.cells #[.string Tu.sG,.string Tu.dF] 111);have H4:=H9 ((H3.o.stay aW hw).stay aW hba);have dx:=H9 (then_ (then_ HB3.o hw) hba);have ng:=H9 (vg 412 412 rfl [(Tu.sG,Tu.dF)] (some ⟨w4.heap.size,0,none⟩) 1 1 _ (bS.made w4 #[.string Tu.sG,.string Tu.dF] 1 111 (0,0)) rfl (by decide));clear hw hba jW H3 HB3 x0 x1 x2 x3 x4 x5 x6;cases bv with
     | false =>
       rw [if_pos (fun e=>by have:=eV.1 e;cases this)] at HD;unfold Tu.sG Tu.dF at ng H4;go_wp2_with fail
       refine (ng.o).mono ?_;rintro e w9 hG;obtain ⟨HE,dz,aP,n9,he⟩:=H4.o.fell hG;unfold bC at he;subst he;clear hG;go_wp2;exact ⟨rfl,by rw [HD.o];exact HE.o⟩
     | true =>
     rw [if_neg (fun e=>e (eV.2 rfl))] at HD;clear eV ng;obtain ⟨x0,x1,x2,x3,x4,x5,x6⟩:=HC.o _ _ _ H4.o;unfold Tu.sG Tu.dF at x0 x1 x2 x3 x4 x5 x6 H4 dx;go_wp2_with fail
     refine (bB 412 _ _ _ _).mono ?_;rintro e wq ⟨rfl,hw⟩;rw [hw];clear hw;generalize (w4.alloc (.cells #[.string ⟨#[84,117,115,45,86,101,114,115,105,111,110]⟩,.string ⟨#[49,46,48,46,48]⟩] 111))=w5 at *;rw [if_pos HTf.o] at HD;have Ri:=H9 (Jk (g:=g) (m:=m) (t:=t) (mi:=mi) (ln:=ln) (bo:=bo) (aj:=aj) (nb:=nb) (H4.o.pw Es.o) H4.o.sh kV.o (HF.o.stay dx.o));generalize Tu.post s m l=r9 at *;obtain ⟨sr,st,lr⟩:=r9;go_wp2_with fail
     refine (Ri.o).mono ?_;rintro e w9 hE;cases hE with
     | @gave dz aP n9 _ fO dK fD mX =>
       have HE:=H9 (H4.o.I7 fO dK fD mX);unfold bC at HE ⊢;clear fO dK fD mX;go_wp2;exact ⟨rfl,by rw [HD.o];exact HE.o⟩
     | @ret dz aP n9 _ fO dK fD mX =>
       have Bu:=H4.o.did fD mX;replace dK:=dK.mono (Nat.le_trans (Nat.le_add_right _ _) H4.o.sz);have jG:=Below.refl w9.heap.size w9;obtain ⟨⟨z0,z1,z2,y0,y1,y2⟩,HE⟩:=Bu.ends aW (i:=1) rfl (b:=w.heap.size+1) (by first | rfl | omega) (st:=st) (gW:=(st:Int)) rfl fO (Nat.le_refl _) dK jG;clear fO dK jG fD mX Bu;go_wp2;generalize (((w9.setCell ⟨w.heap.size+1,0,none⟩ (.int .i64 (st:Int))).setCell ⟨w.heap.size+1,1,none⟩ (.slice dz n9 aP)).setCell ⟨w.heap.size+1,2,none⟩ (.slice none 0 0))=wf at *;obtain ⟨q0,q1,q2,q3⟩:=HE.o;refine bodyPost_ret (v:=.agg #[.int .i64 (st:Int),.slice dz n9 aP,.slice none 0 0]) (by simp [results,results51,go_sem,q0,q1,q2]) rfl ?_;rw [HD.o];exact gI.of q3
 | false =>
   have HTf:Hid (¬ t=Tu.nL):=fun e=>by have:=eF.1 e;cases this
   rw [if_neg (fun e=>HTf.o e.1)] at HD;clear eF eO;cases bo_ with
   | true =>
     have yt:=HF.o.val Tu.VX;generalize ND:Tu.one (Tu.vals Tu.VX l)=rr at *;obtain ⟨vr,cr⟩:=rr;simp only at yt HD;by_cases NG:cr=9
     · subst NG;rw [if_pos rfl] at HD;have HT:=H9 (mM (g:=g) (m:=m) (t:=t) (mi:=mi) (ln:=ln) (bo:=bo) (aj:=aj) (nb:=nb) Tu.wE (by decide) (HF.o.stay HB2.o) (by rw [Tu.oq];exact ND));unfold Tu.wE at HT;clear ND yt;go_wp2_with fail
       refine (HT.o).mono ?_;rintro e w9 hG;obtain ⟨HE,dz,aP,n9,he⟩:=H2.o.fell hG;unfold bC at he;subst he;clear hG;go_wp2;exact ⟨rfl,by rw [HD.o];exact HE.o⟩
     rw [if_neg NG] at HD;have HT:=H9 (jS (g:=g) (m:=m) (t:=t) (mi:=mi) (ln:=ln) (bo:=bo) (aj:=aj) (nb:=nb) Tu.wE (by decide) (HF.o.stay HB2.o) (by rw [Tu.oq];exact ND) NG);unfold Tu.wE at HT;clear ND yt NG;generalize decide (cr=0)=cb at *;obtain ⟨bv,hbv⟩:∃ b,((⟨vr.toArray⟩:ByteArray).toList==([49,46,48,46,48]:List UInt8))=b:=⟨_,rfl⟩;have eV:vr=Tu.dF.data.toList↔bv=true:=by rw [←hbv];exact Tu.eqV vr _
     generalize (⟨vr.toArray⟩:ByteArray)=vb at *;go_wp2_with fail
     refine (HT.o).mono ?_;rintro e w3 ⟨rfl,hw⟩;have HB3:=H9 (then_ HB2.o hw);have H3:=H9 (H2.o.stay aW hw);clear hw H2 HB2 x0 x1 x2 x3 x4 x5 x6;obtain ⟨x0,x1,x2,x3,x4,x5,x6⟩:=HC.o _ _ _ H3.o;clear HT;have jW:=H9 (dX Tu.sG Tu.dF w3);unfold Tu.sG Tu.dF at jW;go_wp2_with fail
     refine jW.o.mono ?_;rintro e w4 ⟨rfl,hw⟩;have hba:=(Below.refl _ w4).alloc (Nat.le_refl _) (.cells #[.string Tu.sG,.string Tu.dF] 111);have H4:=H9 ((H3.o.stay aW hw).stay aW hba);have dx:=H9 (then_ (then_ HB3.o hw) hba);have ng:=H9 (vg 412 412 rfl [(Tu.sG,Tu.dF)] (some ⟨w4.heap.size,0,none⟩) 1 1 _ (bS.made w4 #[.string Tu.sG,.string Tu.dF] 1 111 (0,0)) rfl (by decide));clear hw hba jW H3 HB3 x0 x1 x2 x3 x4 x5 x6;cases bv with
     | false =>
       rw [if_pos (fun e=>by have:=eV.1 e;cases this)] at HD;unfold Tu.sG Tu.dF at ng H4;go_wp2_with fail
       refine (ng.o).mono ?_;rintro e w9 hG;obtain ⟨HE,dz,aP,n9,he⟩:=H4.o.fell hG;unfold bC at he;subst he;clear hG;go_wp2;exact ⟨rfl,by rw [HD.o];exact HE.o⟩
     | true =>
     rw [if_neg (fun e=>e (eV.2 rfl))] at HD;clear eV ng;obtain ⟨x0,x1,x2,x3,x4,x5,x6⟩:=HC.o _ _ _ H4.o;unfold Tu.sG Tu.dF at x0 x1 x2 x3 x4 x5 x6 H4 dx;go_wp2_with fail
     refine (bB 412 _ _ _ _).mono ?_;rintro e wq ⟨rfl,hw⟩;rw [hw];clear hw;generalize (w4.alloc (.cells #[.string ⟨#[84,117,115,45,86,101,114,115,105,111,110]⟩,.string ⟨#[49,46,48,46,48]⟩] 111))=w5 at *;rw [if_neg HTf.o] at HD;obtain ⟨LQ,LU⟩:=yA (g:=g) (m:=m) (t:=t) (mi:=mi) (ln:=ln) (fo:=fo) (au:=au) (nf:=nf) (bo:=bo) (aj:=aj) (nb:=nb) H4.o.sh kV.o (H4.o.pow Es.o) ht;cases LV:Tu.wG s.h t with
     | none =>
       rw [LV] at HD;simp only at HD;have UF:=H9 (LQ LV);clear LQ LU LV;go_wp2_with fail
       refine (UF.o).mono ?_;rintro e w9 hG;obtain ⟨HE,dz,aP,n9,he⟩:=H4.o.fell hG;unfold bC at he;subst he;clear hG;go_wp2;exact ⟨rfl,by rw [HD.o];exact HE.o⟩
     | some u =>
     rw [LV] at HD;simp only at HD;have UF:=H9 (LU u LV);have hmem:=(Tu.zO LV).1;have Xq:=kV.o.h.all u hmem;have Rh:=Xq.long;have hs0:=Xq.Dn;have hs1:=Xq.Gg
     clear LQ LU LV hmem Xq;obtain ⟨un,hun⟩:∃ un,u.bytes.length=un:=⟨_,rfl⟩;have Z7:=H9 hun;rw [hun] at Rh;rw [hun] at UF;clear hun;go_wp2_with fail
     refine UF.o.mono ?_;rintro e w6 ⟨uo,bP,rfl,hw⟩;have hba:=(Below.refl _ w6).alloc (Nat.le_refl _) (.cells #[.int .i64 u.id,.int .i64 u.size,.string u.note,.slice uo un bP,.int .i64 u.sent] 101);have H6:=H9 ((H4.o.stay aW hw).stay aW hba);have qc:=H9 (then_ (then_ dx.o hw) hba);clear hw hba UF H4 dx x0 x1 x2 x3 x4 x5 x6;obtain ⟨x0,x1,x2,x3,x4,x5,x6⟩:=HC.o _ _ _ H6.o;have v0:(w6.alloc (.cells #[.int .i64 u.id,.int .i64 u.size,.string u.note,.slice uo un bP,.int .i64 u.sent] 101)).cell? ⟨w6.heap.size,0,none⟩=some (.int .i64 u.id):=World.cell?_alloc_mark w6 _ _ _ 0;have v1:(w6.alloc (.cells #[.int .i64 u.id,.int .i64 u.size,.string u.note,.slice uo un bP,.int .i64 u.sent] 101)).cell? ⟨w6.heap.size,1,none⟩=some (.int .i64 u.size):=World.cell?_alloc_mark w6 _ _ _ 1;have v2:(w6.alloc (.cells #[.int .i64 u.id,.int .i64 u.size,.string u.note,.slice uo un bP,.int .i64 u.sent] 101)).cell? ⟨w6.heap.size,2,none⟩=some (.string u.note):=World.cell?_alloc_mark w6 _ _ _ 2;have v3:(w6.alloc (.cells #[.int .i64 u.id,.int .i64 u.size,.string u.note,.slice uo un bP,.int .i64 u.sent] 101)).cell? ⟨w6.heap.size,3,none⟩=some (.slice uo un bP):=World.cell?_alloc_mark w6 _ _ _ 3;have v4:(w6.alloc (.cells #[.int .i64 u.id,.int .i64 u.size,.string u.note,.slice uo un bP,.int .i64 u.sent] 101)).cell? ⟨w6.heap.size,4,none⟩=some (.int .i64 u.sent):=World.cell?_alloc_mark w6 _ _ _ 4;go_upto_region 8 with fail
     generalize (w6.alloc (.cells #[.int .i64 u.id,.int .i64 u.size,.string u.note,.slice uo un bP,.int .i64 u.sent] 101))=w7 at *;generalize w6.heap.size=k6 at *;unfold Tu.OT at HD;obtain ⟨bh,hbh⟩:∃ b,(m.toList==([72,69,65,68]:List UInt8))=b:=⟨_,rfl⟩;have eH:m=Tu.Gw↔bh=true:=by rw [←hbh];exact Tu.Vw m Tu.Gw _ rfl
     cases bh with
     | true =>
       rw [if_pos (eH.2 rfl)] at HD;have HDs:Hid (Calls prog 90 #[.agg #[.int .i64 u.id,.int .i64 u.size,.string u.note,.slice uo un bP,.int .i64 u.sent]] w7 fun e w'=>∃ (ao:Option Addr) (cap k:Nat),e=.returned (.agg #[.int .i64 200,.slice ao k cap,.slice none 0 0])∧(Tu.head u).2.length=k∧aD w' w7.heap.size 111 2 ao cap k (aC (Tu.head u).2)∧Below w7.heap.size w7 w'):=sU u uo un bP Z7.o hs0 hs1 Rh w7 (H6.o.pow Es.o);have LW:Hid (Tu.head u=(200,(Tu.head u).2)):=by unfold Hid;rfl
       rw [LW.o] at HD;clear eH LW;generalize (Tu.head u).2=lh at *;go_wp2_with fail
       refine HDs.o.mono ?_;rintro e w9 ⟨dz,aP,n9,rfl,fO,dK,jG⟩;obtain ⟨⟨z0,z1,z2,y0,y1,y2⟩,HE⟩:=H6.o.ends aW (i:=1) rfl (b:=w.heap.size+1) (by first | rfl | omega) (st:=200) (gW:=200) rfl fO (Nat.le_trans (Nat.le_add_right _ _) H6.o.sz) dK jG;clear fO dK jG;go_wp2;generalize (((w9.setCell ⟨w.heap.size+1,0,none⟩ (.int .i64 200)).setCell ⟨w.heap.size+1,1,none⟩ (.slice dz n9 aP)).setCell ⟨w.heap.size+1,2,none⟩ (.slice none 0 0))=wf at *;obtain ⟨q0,q1,q2,q3⟩:=HE.o;refine bodyPost_ret (v:=.agg #[.int .i64 200,.slice dz n9 aP,.slice none 0 0]) (by simp [results,results51,go_sem,q0,q1,q2]) rfl ?_;rw [HD.o];exact gI.of q3
     | false =>
     rw [if_neg (fun e=>by have:=eH.1 e;cases this)] at HD;clear eH;obtain ⟨bt,hbt⟩:∃ b,(m.toList==([80,65,84,67,72]:List UInt8))=b:=⟨_,rfl⟩;have eT:m=Tu.RO↔bt=true:=by rw [←hbt];exact Tu.Vw m Tu.RO _ rfl
     cases bt with
     | true =>
       rw [if_neg (fun e=>by have:=(eT.2 rfl).symm.trans e;revert this;decide),if_pos (eT.2 rfl)] at HD;have HEx:=H9 (yF (g:=g) (m:=m) (t:=t) (mi:=mi) (ln:=ln) (bo:=bo) (aj:=aj) (nb:=nb) (H6.o.pw Es.o) H6.o.sh kV.o (HF.o.stay qc.o) body Rb.o (AV.o.stay qc.o) hnb u uo un bP Z7.o Rh hs0);clear eT;generalize Tu.patch s u l body=r9 at *;obtain ⟨sr,st,lr⟩:=r9;go_wp2_with fail
       refine (HEx.o).mono ?_;rintro e w9 hE;cases hE with
       | @gave dz aP n9 _ fO dK fD mX =>
         have HE:=H9 (H6.o.I7 fO dK fD mX);unfold bC at HE ⊢;clear fO dK fD mX;go_wp2;exact ⟨rfl,by rw [HD.o];exact HE.o⟩
       | @ret dz aP n9 _ fO dK fD mX =>
         have Bu:=H6.o.did fD mX;replace dK:=dK.mono (Nat.le_trans (Nat.le_add_right _ _) H6.o.sz);have jG:=Below.refl w9.heap.size w9;obtain ⟨⟨z0,z1,z2,y0,y1,y2⟩,HE⟩:=Bu.ends aW (i:=1) rfl (b:=w.heap.size+1) (by first | rfl | omega) (st:=st) (gW:=(st:Int)) rfl fO (Nat.le_refl _) dK jG;clear fO dK jG fD mX Bu;go_wp2;generalize (((w9.setCell ⟨w.heap.size+1,0,none⟩ (.int .i64 (st:Int))).setCell ⟨w.heap.size+1,1,none⟩ (.slice dz n9 aP)).setCell ⟨w.heap.size+1,2,none⟩ (.slice none 0 0))=wf at *;obtain ⟨q0,q1,q2,q3⟩:=HE.o;refine bodyPost_ret (v:=.agg #[.int .i64 (st:Int),.slice dz n9 aP,.slice none 0 0]) (by simp [results,results51,go_sem,q0,q1,q2]) rfl ?_;rw [HD.o];exact gI.of q3
     | false =>
     obtain ⟨bd,hbd⟩:∃ b,(m.toList==([68,69,76,69,84,69]:List UInt8))=b:=⟨_,rfl⟩;have eD:m=Tu.RN↔bd=true:=by rw [←hbd];exact Tu.Vw m Tu.RN _ rfl
     cases bd with
     | true =>
       rw [if_pos (eD.2 rfl)] at HD;have HRe:=H9 (yE (g:=g) (m:=m) (t:=t) (mi:=mi) (ln:=ln) (fo:=fo) (au:=au) (nf:=nf) (bo:=bo) (aj:=aj) (nb:=nb) H6.o.sh kV.o u uo un bP);clear eT eD;generalize (Sr.sync (Sr.drop s u.id).1,Tu.said 204 [])=r9 at *;obtain ⟨sr,st,lr⟩:=r9;go_wp2_with fail
       refine (HRe.o).mono ?_;rintro e w9 hE;cases hE with
       | @gave dz aP n9 _ fO dK fD mX =>
         have HE:=H9 (H6.o.I7 fO dK fD mX);unfold bC at HE ⊢;clear fO dK fD mX;go_wp2;exact ⟨rfl,by rw [HD.o];exact HE.o⟩
       | @ret dz aP n9 _ fO dK fD mX =>
         have Bu:=H6.o.did fD mX;replace dK:=dK.mono (Nat.le_trans (Nat.le_add_right _ _) H6.o.sz);have jG:=Below.refl w9.heap.size w9;obtain ⟨⟨z0,z1,z2,y0,y1,y2⟩,HE⟩:=Bu.ends aW (i:=1) rfl (b:=w.heap.size+1) (by first | rfl | omega) (st:=st) (gW:=(st:Int)) rfl fO (Nat.le_refl _) dK jG;clear fO dK jG fD mX Bu;go_wp2;generalize (((w9.setCell ⟨w.heap.size+1,0,none⟩ (.int .i64 (st:Int))).setCell ⟨w.heap.size+1,1,none⟩ (.slice dz n9 aP)).setCell ⟨w.heap.size+1,2,none⟩ (.slice none 0 0))=wf at *;obtain ⟨q0,q1,q2,q3⟩:=HE.o;refine bodyPost_ret (v:=.agg #[.int .i64 (st:Int),.slice dz n9 aP,.slice none 0 0]) (by simp [results,results51,go_sem,q0,q1,q2]) rfl ?_;rw [HD.o];exact gI.of q3
     | false =>
     rw [if_neg (fun e=>by have:=eD.1 e;cases this),if_neg (fun e=>by have:=eT.1 e;cases this)] at HD;have wZ:=H9 (dP 405 405 rfl [] none 0 0 w7 (bS.nil w7) rfl (by decide));clear eT eD;go_wp2_with fail
     refine wZ.o.mono ?_;rintro e w9 ⟨dz,aP,n9,rfl,fO,dK,jG⟩;obtain ⟨⟨z0,z1,z2,y0,y1,y2⟩,HE⟩:=H6.o.ends aW (i:=1) rfl (b:=w.heap.size+1) (by first | rfl | omega) (st:=405) (gW:=405) rfl fO (Nat.le_trans (Nat.le_add_right _ _) H6.o.sz) dK jG;clear fO dK jG;go_wp2;generalize (((w9.setCell ⟨w.heap.size+1,0,none⟩ (.int .i64 405)).setCell ⟨w.heap.size+1,1,none⟩ (.slice dz n9 aP)).setCell ⟨w.heap.size+1,2,none⟩ (.slice none 0 0))=wf at *;obtain ⟨q0,q1,q2,q3⟩:=HE.o;refine bodyPost_ret (v:=.agg #[.int .i64 405,.slice dz n9 aP,.slice none 0 0]) (by simp [results,results51,go_sem,q0,q1,q2]) rfl ?_;rw [HD.o];exact gI.of q3
   | false =>
     have yt:=HF.o.val Tu.VX;generalize ND:Tu.one (Tu.vals Tu.VX l)=rr at *;obtain ⟨vr,cr⟩:=rr;simp only at yt HD;by_cases NG:cr=9
     · subst NG;rw [if_pos rfl] at HD;have HT:=H9 (mM (g:=g) (m:=m) (t:=t) (mi:=mi) (ln:=ln) (bo:=bo) (aj:=aj) (nb:=nb) Tu.wE (by decide) (HF.o.stay HB2.o) (by rw [Tu.oq];exact ND));unfold Tu.wE at HT;clear ND yt;go_wp2_with fail
       refine (HT.o).mono ?_;rintro e w9 hG;obtain ⟨HE,dz,aP,n9,he⟩:=H2.o.fell hG;unfold bC at he;subst he;clear hG;go_wp2;exact ⟨rfl,by rw [HD.o];exact HE.o⟩
     rw [if_neg NG] at HD;have HT:=H9 (jS (g:=g) (m:=m) (t:=t) (mi:=mi) (ln:=ln) (bo:=bo) (aj:=aj) (nb:=nb) Tu.wE (by decide) (HF.o.stay HB2.o) (by rw [Tu.oq];exact ND) NG);unfold Tu.wE at HT;clear ND yt NG;generalize decide (cr=0)=cb at *;obtain ⟨bv,hbv⟩:∃ b,((⟨vr.toArray⟩:ByteArray).toList==([49,46,48,46,48]:List UInt8))=b:=⟨_,rfl⟩;have eV:vr=Tu.dF.data.toList↔bv=true:=by rw [←hbv];exact Tu.eqV vr _
     generalize (⟨vr.toArray⟩:ByteArray)=vb at *;go_wp2_with fail
     refine (HT.o).mono ?_;rintro e w3 ⟨rfl,hw⟩;have HB3:=H9 (then_ HB2.o hw);have H3:=H9 (H2.o.stay aW hw);clear hw H2 HB2 x0 x1 x2 x3 x4 x5 x6;obtain ⟨x0,x1,x2,x3,x4,x5,x6⟩:=HC.o _ _ _ H3.o;clear HT;have jW:=H9 (dX Tu.sG Tu.dF w3);unfold Tu.sG Tu.dF at jW;go_wp2_with fail
     refine jW.o.mono ?_;rintro e w4 ⟨rfl,hw⟩;have hba:=(Below.refl _ w4).alloc (Nat.le_refl _) (.cells #[.string Tu.sG,.string Tu.dF] 111);have H4:=H9 ((H3.o.stay aW hw).stay aW hba);have dx:=H9 (then_ (then_ HB3.o hw) hba);have ng:=H9 (vg 412 412 rfl [(Tu.sG,Tu.dF)] (some ⟨w4.heap.size,0,none⟩) 1 1 _ (bS.made w4 #[.string Tu.sG,.string Tu.dF] 1 111 (0,0)) rfl (by decide));clear hw hba jW H3 HB3 x0 x1 x2 x3 x4 x5 x6;cases bv with
     | false =>
       rw [if_pos (fun e=>by have:=eV.1 e;cases this)] at HD;unfold Tu.sG Tu.dF at ng H4;go_wp2_with fail
       refine (ng.o).mono ?_;rintro e w9 hG;obtain ⟨HE,dz,aP,n9,he⟩:=H4.o.fell hG;unfold bC at he;subst he;clear hG;go_wp2;exact ⟨rfl,by rw [HD.o];exact HE.o⟩
     | true =>
     rw [if_neg (fun e=>e (eV.2 rfl))] at HD;clear eV ng;obtain ⟨x0,x1,x2,x3,x4,x5,x6⟩:=HC.o _ _ _ H4.o;unfold Tu.sG Tu.dF at x0 x1 x2 x3 x4 x5 x6 H4 dx;go_wp2_with fail
     refine (bB 412 _ _ _ _).mono ?_;rintro e wq ⟨rfl,hw⟩;rw [hw];clear hw;generalize (w4.alloc (.cells #[.string ⟨#[84,117,115,45,86,101,114,115,105,111,110]⟩,.string ⟨#[49,46,48,46,48]⟩] 111))=w5 at *;rw [if_neg HTf.o] at HD;obtain ⟨LQ,LU⟩:=yA (g:=g) (m:=m) (t:=t) (mi:=mi) (ln:=ln) (fo:=fo) (au:=au) (nf:=nf) (bo:=bo) (aj:=aj) (nb:=nb) H4.o.sh kV.o (H4.o.pow Es.o) ht;cases LV:Tu.wG s.h t with
     | none =>
       rw [LV] at HD;simp only at HD;have UF:=H9 (LQ LV);clear LQ LU LV;go_wp2_with fail
       refine (UF.o).mono ?_;rintro e w9 hG;obtain ⟨HE,dz,aP,n9,he⟩:=H4.o.fell hG;unfold bC at he;subst he;clear hG;go_wp2;exact ⟨rfl,by rw [HD.o];exact HE.o⟩
     | some u =>
     rw [LV] at HD;simp only at HD;have UF:=H9 (LU u LV);have hmem:=(Tu.zO LV).1;have Xq:=kV.o.h.all u hmem;have Rh:=Xq.long;have hs0:=Xq.Dn;have hs1:=Xq.Gg
     clear LQ LU LV hmem Xq;obtain ⟨un,hun⟩:∃ un,u.bytes.length=un:=⟨_,rfl⟩;have Z7:=H9 hun;rw [hun] at Rh;rw [hun] at UF;clear hun;go_wp2_with fail
     refine UF.o.mono ?_;rintro e w6 ⟨uo,bP,rfl,hw⟩;have hba:=(Below.refl _ w6).alloc (Nat.le_refl _) (.cells #[.int .i64 u.id,.int .i64 u.size,.string u.note,.slice uo un bP,.int .i64 u.sent] 101);have H6:=H9 ((H4.o.stay aW hw).stay aW hba);have qc:=H9 (then_ (then_ dx.o hw) hba);clear hw hba UF H4 dx x0 x1 x2 x3 x4 x5 x6;obtain ⟨x0,x1,x2,x3,x4,x5,x6⟩:=HC.o _ _ _ H6.o;have v0:(w6.alloc (.cells #[.int .i64 u.id,.int .i64 u.size,.string u.note,.slice uo un bP,.int .i64 u.sent] 101)).cell? ⟨w6.heap.size,0,none⟩=some (.int .i64 u.id):=World.cell?_alloc_mark w6 _ _ _ 0;have v1:(w6.alloc (.cells #[.int .i64 u.id,.int .i64 u.size,.string u.note,.slice uo un bP,.int .i64 u.sent] 101)).cell? ⟨w6.heap.size,1,none⟩=some (.int .i64 u.size):=World.cell?_alloc_mark w6 _ _ _ 1;have v2:(w6.alloc (.cells #[.int .i64 u.id,.int .i64 u.size,.string u.note,.slice uo un bP,.int .i64 u.sent] 101)).cell? ⟨w6.heap.size,2,none⟩=some (.string u.note):=World.cell?_alloc_mark w6 _ _ _ 2;have v3:(w6.alloc (.cells #[.int .i64 u.id,.int .i64 u.size,.string u.note,.slice uo un bP,.int .i64 u.sent] 101)).cell? ⟨w6.heap.size,3,none⟩=some (.slice uo un bP):=World.cell?_alloc_mark w6 _ _ _ 3;have v4:(w6.alloc (.cells #[.int .i64 u.id,.int .i64 u.size,.string u.note,.slice uo un bP,.int .i64 u.sent] 101)).cell? ⟨w6.heap.size,4,none⟩=some (.int .i64 u.sent):=World.cell?_alloc_mark w6 _ _ _ 4;go_upto_region 8 with fail
     generalize (w6.alloc (.cells #[.int .i64 u.id,.int .i64 u.size,.string u.note,.slice uo un bP,.int .i64 u.sent] 101))=w7 at *;generalize w6.heap.size=k6 at *;unfold Tu.OT at HD;obtain ⟨bh,hbh⟩:∃ b,(m.toList==([72,69,65,68]:List UInt8))=b:=⟨_,rfl⟩;have eH:m=Tu.Gw↔bh=true:=by rw [←hbh];exact Tu.Vw m Tu.Gw _ rfl
     cases bh with
     | true =>
       rw [if_pos (eH.2 rfl)] at HD;have HDs:Hid (Calls prog 90 #[.agg #[.int .i64 u.id,.int .i64 u.size,.string u.note,.slice uo un bP,.int .i64 u.sent]] w7 fun e w'=>∃ (ao:Option Addr) (cap k:Nat),e=.returned (.agg #[.int .i64 200,.slice ao k cap,.slice none 0 0])∧(Tu.head u).2.length=k∧aD w' w7.heap.size 111 2 ao cap k (aC (Tu.head u).2)∧Below w7.heap.size w7 w'):=sU u uo un bP Z7.o hs0 hs1 Rh w7 (H6.o.pow Es.o);have LW:Hid (Tu.head u=(200,(Tu.head u).2)):=by unfold Hid;rfl
       rw [LW.o] at HD;clear eH LW;generalize (Tu.head u).2=lh at *;go_wp2_with fail
       refine HDs.o.mono ?_;rintro e w9 ⟨dz,aP,n9,rfl,fO,dK,jG⟩;obtain ⟨⟨z0,z1,z2,y0,y1,y2⟩,HE⟩:=H6.o.ends aW (i:=1) rfl (b:=w.heap.size+1) (by first | rfl | omega) (st:=200) (gW:=200) rfl fO (Nat.le_trans (Nat.le_add_right _ _) H6.o.sz) dK jG;clear fO dK jG;go_wp2;generalize (((w9.setCell ⟨w.heap.size+1,0,none⟩ (.int .i64 200)).setCell ⟨w.heap.size+1,1,none⟩ (.slice dz n9 aP)).setCell ⟨w.heap.size+1,2,none⟩ (.slice none 0 0))=wf at *;obtain ⟨q0,q1,q2,q3⟩:=HE.o;refine bodyPost_ret (v:=.agg #[.int .i64 200,.slice dz n9 aP,.slice none 0 0]) (by simp [results,results51,go_sem,q0,q1,q2]) rfl ?_;rw [HD.o];exact gI.of q3
     | false =>
     rw [if_neg (fun e=>by have:=eH.1 e;cases this)] at HD;clear eH;obtain ⟨bt,hbt⟩:∃ b,(m.toList==([80,65,84,67,72]:List UInt8))=b:=⟨_,rfl⟩;have eT:m=Tu.RO↔bt=true:=by rw [←hbt];exact Tu.Vw m Tu.RO _ rfl
     cases bt with
     | true =>
       rw [if_neg (fun e=>by have:=(eT.2 rfl).symm.trans e;revert this;decide),if_pos (eT.2 rfl)] at HD;have HEx:=H9 (yF (g:=g) (m:=m) (t:=t) (mi:=mi) (ln:=ln) (bo:=bo) (aj:=aj) (nb:=nb) (H6.o.pw Es.o) H6.o.sh kV.o (HF.o.stay qc.o) body Rb.o (AV.o.stay qc.o) hnb u uo un bP Z7.o Rh hs0);clear eT;generalize Tu.patch s u l body=r9 at *;obtain ⟨sr,st,lr⟩:=r9;go_wp2_with fail
       refine (HEx.o).mono ?_;rintro e w9 hE;cases hE with
       | @gave dz aP n9 _ fO dK fD mX =>
         have HE:=H9 (H6.o.I7 fO dK fD mX);unfold bC at HE ⊢;clear fO dK fD mX;go_wp2;exact ⟨rfl,by rw [HD.o];exact HE.o⟩
       | @ret dz aP n9 _ fO dK fD mX =>
         have Bu:=H6.o.did fD mX;replace dK:=dK.mono (Nat.le_trans (Nat.le_add_right _ _) H6.o.sz);have jG:=Below.refl w9.heap.size w9;obtain ⟨⟨z0,z1,z2,y0,y1,y2⟩,HE⟩:=Bu.ends aW (i:=1) rfl (b:=w.heap.size+1) (by first | rfl | omega) (st:=st) (gW:=(st:Int)) rfl fO (Nat.le_refl _) dK jG;clear fO dK jG fD mX Bu;go_wp2;generalize (((w9.setCell ⟨w.heap.size+1,0,none⟩ (.int .i64 (st:Int))).setCell ⟨w.heap.size+1,1,none⟩ (.slice dz n9 aP)).setCell ⟨w.heap.size+1,2,none⟩ (.slice none 0 0))=wf at *;obtain ⟨q0,q1,q2,q3⟩:=HE.o;refine bodyPost_ret (v:=.agg #[.int .i64 (st:Int),.slice dz n9 aP,.slice none 0 0]) (by simp [results,results51,go_sem,q0,q1,q2]) rfl ?_;rw [HD.o];exact gI.of q3
     | false =>
     obtain ⟨bd,hbd⟩:∃ b,(m.toList==([68,69,76,69,84,69]:List UInt8))=b:=⟨_,rfl⟩;have eD:m=Tu.RN↔bd=true:=by rw [←hbd];exact Tu.Vw m Tu.RN _ rfl
     cases bd with
     | true =>
       rw [if_pos (eD.2 rfl)] at HD;have HRe:=H9 (yE (g:=g) (m:=m) (t:=t) (mi:=mi) (ln:=ln) (fo:=fo) (au:=au) (nf:=nf) (bo:=bo) (aj:=aj) (nb:=nb) H6.o.sh kV.o u uo un bP);clear eT eD;generalize (Sr.sync (Sr.drop s u.id).1,Tu.said 204 [])=r9 at *;obtain ⟨sr,st,lr⟩:=r9;go_wp2_with fail
       refine (HRe.o).mono ?_;rintro e w9 hE;cases hE with
       | @gave dz aP n9 _ fO dK fD mX =>
         have HE:=H9 (H6.o.I7 fO dK fD mX);unfold bC at HE ⊢;clear fO dK fD mX;go_wp2;exact ⟨rfl,by rw [HD.o];exact HE.o⟩
       | @ret dz aP n9 _ fO dK fD mX =>
         have Bu:=H6.o.did fD mX;replace dK:=dK.mono (Nat.le_trans (Nat.le_add_right _ _) H6.o.sz);have jG:=Below.refl w9.heap.size w9;obtain ⟨⟨z0,z1,z2,y0,y1,y2⟩,HE⟩:=Bu.ends aW (i:=1) rfl (b:=w.heap.size+1) (by first | rfl | omega) (st:=st) (gW:=(st:Int)) rfl fO (Nat.le_refl _) dK jG;clear fO dK jG fD mX Bu;go_wp2;generalize (((w9.setCell ⟨w.heap.size+1,0,none⟩ (.int .i64 (st:Int))).setCell ⟨w.heap.size+1,1,none⟩ (.slice dz n9 aP)).setCell ⟨w.heap.size+1,2,none⟩ (.slice none 0 0))=wf at *;obtain ⟨q0,q1,q2,q3⟩:=HE.o;refine bodyPost_ret (v:=.agg #[.int .i64 (st:Int),.slice dz n9 aP,.slice none 0 0]) (by simp [results,results51,go_sem,q0,q1,q2]) rfl ?_;rw [HD.o];exact gI.of q3
     | false =>
     rw [if_neg (fun e=>by have:=eD.1 e;cases this),if_neg (fun e=>by have:=eT.1 e;cases this)] at HD;have wZ:=H9 (dP 405 405 rfl [] none 0 0 w7 (bS.nil w7) rfl (by decide));clear eT eD;go_wp2_with fail
     refine wZ.o.mono ?_;rintro e w9 ⟨dz,aP,n9,rfl,fO,dK,jG⟩;obtain ⟨⟨z0,z1,z2,y0,y1,y2⟩,HE⟩:=H6.o.ends aW (i:=1) rfl (b:=w.heap.size+1) (by first | rfl | omega) (st:=405) (gW:=405) rfl fO (Nat.le_trans (Nat.le_add_right _ _) H6.o.sz) dK jG;clear fO dK jG;go_wp2;generalize (((w9.setCell ⟨w.heap.size+1,0,none⟩ (.int .i64 405)).setCell ⟨w.heap.size+1,1,none⟩ (.slice dz n9 aP)).setCell ⟨w.heap.size+1,2,none⟩ (.slice none 0 0))=wf at *;obtain ⟨q0,q1,q2,q3⟩:=HE.o;refine bodyPost_ret (v:=.agg #[.int .i64 405,.slice dz n9 aP,.slice none 0 0]) (by simp [results,results51,go_sem,q0,q1,q2]) rfl ?_;rw [HD.o];exact gI.of q3
end
theorem xg (b:Nat) (st:Int) (ao:Option Addr) (n cap:Nat) (older:List PanicEntry) (w:World) (hr:w.cell? ⟨b,0,none⟩=some (.int .i64 0)∧w.cell? ⟨b,1,none⟩=some (.slice none 0 0)∧w.cell? ⟨b,2,none⟩=some (.slice none 0 0)∧w.frozen? ⟨b,0,none⟩=false∧w.frozen? ⟨b,1,none⟩=false∧w.frozen? ⟨b,2,none⟩=false) :
 CallsD prog 83 #[.pointer (some ⟨b,0,none⟩)] (.panicking ({ v:=.iface 157 (.agg #[.int .i64 st,.slice ao n cap,.slice none 0 0]),recovered:=false }::older)) w fun e u' w' =>
  e=.returned (.tuple #[])∧u'=.panicking ({ v:=.iface 157 (.agg #[.int .i64 st,.slice ao n cap,.slice none 0 0]),recovered:=true }::older)∧w'=(((w.setCell ⟨b,0,none⟩ (.int .i64 st)).setCell ⟨b,1,none⟩ (.slice ao n cap)).setCell ⟨b,2,none⟩ (.slice none 0 0)):=by
 obtain ⟨c0,c1,c2,f0,f1,f2⟩:=hr;refine callsD_of_wpS func83 rfl fun c₀ cs hu=>?_;apply wpS_seq;apply wpS_region;simp [wpOpsS,go_sem,recoverD,hu,ntmps83,Exit.thenS];change Code.wpS _ _ _ { tmps:=#[.pointer (some ⟨b,0,none⟩),.iface 157 (.agg #[.int .i64 st,.slice ao n cap,.slice none 0 0]),.iface 157 (.agg #[.int .i64 st,.slice ao n cap,.slice none 0 0]),undef,undef,undef,undef,undef],defers:=[] } _ _;refine wpS_of_wp ?_;have hta:∀ w:World,(Instr.typeAssert (.iface 157 (.agg #[.int .i64 st,.slice ao n cap,.slice none 0 0])) 20 157 false).run prog w=.ok (.agg #[.int .i64 st,.slice ao n cap,.slice none 0 0]) w:=fun _=>by kernel_rfl
 have hfl:∀ w:World,(Instr.field 157 (.agg #[.int .i64 st,.slice ao n cap,.slice none 0 0]) 0).run prog w=.ok (.agg #[.int .i64 st,.slice ao n cap,.slice none 0 0]) w:=fun _=>by kernel_rfl
 go_wp2;simp [bodyPostS,results,results83]
theorem Jl (b:Nat) (w:World) :
 CallsD prog 83 #[.pointer (some ⟨b,0,none⟩)] .returning w fun e u' w'=>e=.returned (.tuple #[])∧u'=.returning∧w'=w:=by
 refine callsD_of_wpS func83 rfl fun c₀ cs hu=>?_;apply wpS_seq;apply wpS_region;simp [wpOpsS,go_sem,recoverD,hu,ntmps83,Exit.thenS];change Code.wpS _ _ _ { tmps:=#[.pointer (some ⟨b,0,none⟩),.nilIface,.nilIface,undef,undef,undef,undef,undef],defers:=[] } _ _;refine wpS_of_wp ?_;go_wp2;cases c₀;simp_all [bodyPostS,results,results83]
section
variable {g:Nat} {m t:ByteArray} {mi ln:Int} {l:List (ByteArray×ByteArray)} {fo:Option Addr} {au nf:Nat} {bo:Option Addr} {aj nb:Nat} {w w0:World} {S:Nat→Prop} {s:Sr.Sh}
theorem agd (h:aU w S g s):bV aU S w g [.cells #[.int .i64 0,.slice none 0 0,.slice none 0 0] 88 (0,0)] s (fun k=>S k∧k<w.heap.size) (w.alloc (.cells #[.int .i64 0,.slice none 0 0,.slice none 0 0] 88)):=(bV.start aW h).box aW rfl (fun _ e=>e.2) _
theorem Jm (p:qQ w0 w S) (h:aU w S g s) (ok:Sr.Ok s) (hF:kI w l fo au nf) (body:List UInt8) (hb:body.length=nb) (hB:aT w bo aj body) (hnb:nb≤100000) (ht:t.size≤100000) :
 Calls prog 50 #[.func (.func 51) #[.agg #[.pointer (some ⟨g,0,none⟩),.string m,.string t,.int .i64 mi,.slice fo nf au,.int .i64 ln,.slice bo nb aj]] #[]] w fun e w'=>u7 aU S w g (Tu.aS s m t l body) e w':=by
 have Q9:∀ (fn:Fn) (first cap:Array Value) (w:World),(Instr.makeFunc fn first cap).run prog w=.ok (.func fn first cap) w:=fun _ _ _ _=>rfl;have T1:=agd h;have hb1:=(Below.refl _ w).alloc (Nat.le_refl _) (.cells #[.int .i64 0,.slice none 0 0,.slice none 0 0] 88);have HRp:=H9 (LM (m:=m) (t:=t) (mi:=mi) (ln:=ln) (bo:=bo) (aj:=aj) (nb:=nb) (T1.pw p) T1.sh ok (hF.stay hb1) body hb (hB.stay hb1) hnb ht);have H1:=H9 T1;clear T1 hb1 p h ok hF hb hB;obtain ⟨R,hR⟩:∃ R,R=Tu.aS s m t l body:=⟨_,rfl⟩;rw [←hR] at HRp ⊢;clear hR;obtain ⟨sr,st,lr⟩:=R;go_enter_defers func50,ntmps50
 go_wp2_with fail
 refine HRp.o.mono ?_;rintro e w9 hE;cases hE with
 | @gave dz aP n9 _ fO dK fD mX =>
   have Bu:=H1.o.did fD mX;replace dK:=dK.mono (Nat.le_trans (Nat.le_add_right _ _) H1.o.sz);obtain ⟨hz,HE⟩:=Bu.ends aW (i:=0) rfl (b:=w.heap.size) (by first | rfl | omega) (st:=st) (gW:=(st:Int)) rfl fO (Nat.le_refl _) dK (Below.refl w9.heap.size w9);have HZ:=H9 hz;clear fO dK fD mX Bu hz;unfold bC;go_wp2;refine leaves_cons (f:=83) (args:=#[.pointer (some ⟨w.heap.size,0,none⟩)]) (by simp) (by simp [go_sem]) ?_;refine (xg w.heap.size st dz n9 aP [] w9 HZ.o).mono ?_;rintro e u' w'' ⟨rfl,rfl,hw⟩;rw [hw];clear hw HZ;generalize (((w9.setCell ⟨w.heap.size,0,none⟩ (.int .i64 (st:Int))).setCell ⟨w.heap.size,1,none⟩ (.slice dz n9 aP)).setCell ⟨w.heap.size,2,none⟩ (.slice none 0 0))=wf at *;obtain ⟨q0,q1,q2,q3⟩:=HE.o;simp [Leaves,settle,results,results50,go_sem,q0,q1,q2];exact q3
 | @ret dz aP n9 _ fO dK fD mX =>
   have Bu:=H1.o.did fD mX;replace dK:=dK.mono (Nat.le_trans (Nat.le_add_right _ _) H1.o.sz);obtain ⟨⟨z0,z1,z2,y0,y1,y2⟩,HE⟩:=Bu.ends aW (i:=0) rfl (b:=w.heap.size) (by first | rfl | omega) (st:=st) (gW:=(st:Int)) rfl fO (Nat.le_refl _) dK (Below.refl w9.heap.size w9);clear fO dK fD mX Bu;go_wp2;refine leaves_cons (f:=83) (args:=#[.pointer (some ⟨w.heap.size,0,none⟩)]) (by simp) (by simp [go_sem]) ?_;refine (Jl w.heap.size _).mono ?_;rintro e u' w'' ⟨rfl,rfl,hw⟩;rw [hw];clear hw;generalize (((w9.setCell ⟨w.heap.size,0,none⟩ (.int .i64 (st:Int))).setCell ⟨w.heap.size,1,none⟩ (.slice dz n9 aP)).setCell ⟨w.heap.size,2,none⟩ (.slice none 0 0))=wf at *;obtain ⟨q0,q1,q2,q3⟩:=HE.o;simp [Leaves,settle,results,results50,go_sem,q0,q1,q2];exact q3
theorem Xr (p:qQ w0 w S) (h:aU w S g s) (ok:Sr.Ok s) (hF:kI w l fo au nf) (body:List UInt8) (hb:body.length=nb) (hB:aT w bo aj body) (hnb:nb≤100000) (ht:t.size≤100000) :
 Calls prog 30 #[.pointer (some ⟨g,0,none⟩),.agg #[.string m,.string t,.int .i64 mi,.slice fo nf au,.int .i64 ln],.slice bo nb aj] w fun e w'=>u7 aU S w g (Tu.aS s m t l body) e w':=by
 have Q9:∀ (fn:Fn) (first cap:Array Value) (w:World),(Instr.makeFunc fn first cap).run prog w=.ok (.func fn first cap) w:=fun _ _ _ _=>rfl;have hz1:(w.alloc (.cells #[.string m,.string t,.int .i64 mi,.slice fo nf au,.int .i64 ln] 68)).heap.size=w.heap.size+1:=World.size_alloc ..;have hz2:((w.alloc (.cells #[.string m,.string t,.int .i64 mi,.slice fo nf au,.int .i64 ln] 68)).alloc (.cells #[.int .i64 0,.slice none 0 0,.slice none 0 0] 88)).heap.size=w.heap.size+2:=by rw [World.size_alloc,hz1]
 have T3:bV aU S w g [.cells #[.string m,.string t,.int .i64 mi,.slice fo nf au,.int .i64 ln] 68 (0,0),.cells #[.int .i64 0,.slice none 0 0,.slice none 0 0] 88 (0,0),.cells #[.pointer (some ⟨g,0,none⟩),.string m,.string t,.int .i64 mi,.slice fo nf au,.int .i64 ln,.slice bo nb aj] 123 (0,0)] s (fun k=>S k∧k<w.heap.size) (((w.alloc (.cells #[.string m,.string t,.int .i64 mi,.slice fo nf au,.int .i64 ln] 68)).alloc (.cells #[.int .i64 0,.slice none 0 0,.slice none 0 0] 88)).alloc (.cells #[.pointer (some ⟨g,0,none⟩),.string m,.string t,.int .i64 mi,.slice fo nf au,.int .i64 ln,.slice bo nb aj] 123)) :=
  (((bV.start aW h).box aW rfl (fun k e=>e.2) _).box aW hz1 (fun k e=>by rw [hz1];have:=e.2;omega) _).box aW hz2 (fun k e=>by rw [hz2];have:=e.2;omega) _
 have hb3:Below w.heap.size w (((w.alloc (.cells #[.string m,.string t,.int .i64 mi,.slice fo nf au,.int .i64 ln] 68)).alloc (.cells #[.int .i64 0,.slice none 0 0,.slice none 0 0] 88)).alloc (.cells #[.pointer (some ⟨g,0,none⟩),.string m,.string t,.int .i64 mi,.slice fo nf au,.int .i64 ln,.slice bo nb aj] 123)):=then_ (then_ ((Below.refl _ w).alloc (Nat.le_refl _) _) ((Below.refl _ _).alloc (Nat.le_refl _) _)) ((Below.refl _ _).alloc (Nat.le_refl _) _);have HCa:=H9 (Jm (m:=m) (t:=t) (mi:=mi) (ln:=ln) (bo:=bo) (aj:=aj) (nb:=nb) (T3.pw p) T3.sh ok (hF.stay hb3) body hb (hB.stay hb3) hnb ht);have H3:=H9 T3;clear T3 hb3 p h ok hF hb hB hz1 hz2;obtain ⟨R,hR⟩:∃ R,R=Tu.aS s m t l body:=⟨_,rfl⟩;rw [←hR] at HCa ⊢;clear hR;obtain ⟨sr,st,lr⟩:=R;go_enter func30,ntmps30;go_wp2_with fail
 refine HCa.o.mono ?_;rintro e w9 ⟨⟨dz,aP,n9,rfl,fO,dK⟩,fD,mX⟩;have Bu:=H3.o.did fD mX;replace dK:=dK.mono (Nat.le_trans (Nat.le_add_right _ _) H3.o.sz);obtain ⟨⟨z0,z1,z2,y0,y1,y2⟩,HE⟩:=Bu.ends aW (i:=1) rfl (b:=w.heap.size+1) (by first | rfl | omega) (st:=st) (gW:=(st:Int)) rfl fO (Nat.le_refl _) dK (Below.refl w9.heap.size w9);clear fO dK fD mX Bu;go_wp2;generalize (((w9.setCell ⟨w.heap.size+1,0,none⟩ (.int .i64 (st:Int))).setCell ⟨w.heap.size+1,1,none⟩ (.slice dz n9 aP)).setCell ⟨w.heap.size+1,2,none⟩ (.slice none 0 0))=wf at *;obtain ⟨q0,q1,q2,q3⟩:=HE.o;refine bodyPost_ret (v:=.agg #[.int .i64 (st:Int),.slice dz n9 aP,.slice none 0 0]) (by simp [results,results30,go_sem,q0,q1,q2]) rfl ?_;exact q3
end
end Go.Proofs.YtjmndjmhjleabaaGreatDoor