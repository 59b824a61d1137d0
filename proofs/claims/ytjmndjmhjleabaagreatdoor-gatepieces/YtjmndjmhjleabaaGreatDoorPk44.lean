/- Small texts, one behind the other: FbPow, TsB, RpF. -/
import Derived.Test.YtjmndjmhjleabaaGreatDoorShelf
import Derived.Test.YtjmndjmhjleabaaGreatDoorBase
import Derived.Test.YtjmndjmhjleabaaGreatDoorPk4
import Derived.Lib.AppendIntMem
import Derived.Test.YtjmndjmhjleabaaGreatDoorPk36
import Derived.Test.YtjmndjmhjleabaaGreatDoorPk24
import Derived.Test.YtjmndjmhjleabaaGreatDoorPk30
import Derived.Test.YtjmndjmhjleabaaGreatDoorPk5
set_option maxHeartbeats 1600000
open Go.Proofs.Tryz
namespace Go.Proofs.YtjmndjmhjleabaaGreatDoor
open Go.RowKit
def gU (w:World):Prop:=Lib.TabIs prog w "internal/strconv.uint64pow10" .u64 Lib.pow10Tab
theorem gU.stay {w w':World}(h:gU w)(hb:Below w.heap.size w w'):gU w':=by
 unfold gU Lib.TabIs World.var? at h ⊢;cases hg:prog.globalNamed "internal/strconv.uint64pow10" with
 | none=>rw[hg] at h;cases h
 | some g =>
   rw[hg] at h;simp only[Option.bind_some] at h ⊢;cases hh:w.heap[g]? with
   | none=>rw[hh] at h;cases h
   | some o=>rw[hb.block g (Array.getElem?_eq_some_iff.1 hh).1];exact h
theorem yB:∀(f n:Nat),n<10 ^ (f+1)->Lib.decDigits n=Ch.bY f n
 | 0, n, h => by
   rw[Lib.decDigits,dif_pos (by simpa using h)];rfl
 | f + 1, n, h => by
   rw[Lib.decDigits,Ch.bY];by_cases hn:n<10
   . rw[dif_pos hn,if_pos hn]
   . rw[dif_neg hn,if_neg hn,yB f (n / 10) (by rw[Nat.pow_succ] at h;omega)]
theorem mg (n:Nat)(hn:n<1000000000)(W:World)(hP:gU W):Calls prog 122 #[.int .i64 (n:Int)] W fun e w'=>e=.returned (.string ⟨(Ch.bY 8 n).toArray⟩)∧Below W.heap.size W w':=by
 have h:=Any.strconv_Itoa Tryz.lays171 (n:Int) (by omega) (by omega) W hP;rw[Lib.itoa_nonneg,yB 8 n (by simpa using hn)] at h;refine h.mono ?_;rintro e w' ⟨he,k,os,rfl⟩;exact⟨he,Lib.below_grow _ W (Nat.le_refl _) k os⟩
theorem AV (nm v:ByteArray)(x:Int)(w:World)(hI:∀W,Below w.heap.size w W->Calls prog 122 #[.int .i64 x] W fun e w'=>e=.returned (.string v)∧Below W.heap.size W w'):
 Calls prog 116 #[.string nm,.int .i64 x] w fun e w'=>e=.returned (.agg #[.string nm,.string v])∧Below w.heap.size w w':=by
 have bQ:=(Below.refl _ w).alloc (Nat.le_refl _) (.cells #[.string ⟨#[]⟩,.string ⟨#[]⟩] 111);have HI:=H9 (hI _ bQ);have jr:=H9 bQ;clear hI bQ;go_enter func116,ntmps116;go_wp2_with fail
 refine HI.o.mono ?_;rintro e w1 ⟨rfl,hb1⟩;have HB1:=H9 hb1;clear hb1;go_wp2_with fail
 refine(dL nm v w1).mono ?_;rintro e w2 ⟨rfl,hb2⟩;have UM:=then_ HB1.o hb2;have hr:w2.heap[w.heap.size]? = some (.cells #[.string ⟨#[]⟩,.string ⟨#[]⟩] 111 (0,0)):=(UM.block w.heap.size (by simp)).trans (heap_alloc_new w _);have c0:w2.cell? ⟨w.heap.size,0,none⟩=some (.string ⟨#[]⟩):=cell_of_row w2 _ 0 _ _ _ hr;have c1:w2.cell? ⟨w.heap.size,1,none⟩=some (.string ⟨#[]⟩):=cell_of_row w2 _ 1 _ _ _ hr;have y0:w2.frozen? ⟨w.heap.size,0,none⟩=false:=frozen_of_row w2 _ 0 _ _ hr;have y1:w2.frozen? ⟨w.heap.size,1,none⟩=false:=frozen_of_row w2 _ 1 _ _ hr;have HB:=H9 (((then_ jr.o UM).setCell (p:=⟨w.heap.size,0,none⟩) (Nat.le_refl _) (.string nm)).setCell (p:=⟨w.heap.size,1,none⟩) (Nat.le_refl _) (.string v));have HR:=H9 (heap_setCell_same _ _ 1 _ _ (.string v) (heap_setCell_same _ _ 0 _ _ (.string nm) hr));clear hb2 UM hr HB1 jr HI;go_wp2;generalize ((w2.setCell ⟨w.heap.size,0,none⟩ (.string nm)).setCell ⟨w.heap.size,1,none⟩ (.string v))=wf at *;have q0:wf.cell? ⟨w.heap.size,0,none⟩=some (.string nm):=cell_of_row wf _ 0 _ _ _ HR.o;have q1:wf.cell? ⟨w.heap.size,1,none⟩=some (.string v):=cell_of_row wf _ 1 _ _ _ HR.o;exact bodyPost_ret (v:=.agg #[.string nm,.string v]) (by simp[results,results116,go_sem,q0,q1]) rfl ⟨rfl,HB.o⟩
theorem jg (nm:ByteArray)(n:Nat)(x:Int)(hx:(n:Int)=x)(hn:n<1000000000)(w:World)(hP:gU w):Calls prog 116 #[.string nm,.int .i64 x] w fun e w'=>e=.returned (.agg #[.string nm,.string (Tu.dec n)])∧Below w.heap.size w w':=by
 subst hx;exact AV nm (Tu.dec n) n w (fun W hW=>mg n hn W (hP.stay hW))
theorem vw (c:Nat)(w:World):
 Calls prog 162 #[.int .i64 (c:Int)] w fun e w'=>e=.returned (.int .i64 (Tu.status c:Nat))∧w'=w:=by
 by_cases h10:c=10
 . subst h10;go_enter func162,ntmps162;go_wp2;go_ret;exact⟨rfl,rfl⟩
 by_cases h17:c=17
 . subst h17;go_enter func162,ntmps162;go_wp2;go_ret;exact⟨rfl,rfl⟩
 by_cases h19:c=19
 . subst h19;go_enter func162,ntmps162;go_wp2;go_ret;exact⟨rfl,rfl⟩
 by_cases h4:c=4
 . subst h4;go_enter func162,ntmps162;go_wp2;go_ret;exact⟨rfl,rfl⟩
 by_cases h8:c=8
 . subst h8;go_enter func162,ntmps162;go_wp2;go_ret;exact⟨rfl,rfl⟩
 by_cases h16:c=16
 . subst h16;go_enter func162,ntmps162;go_wp2;go_ret;exact⟨rfl,rfl⟩
 have HS:Hid (Tu.status c=400):=by
  unfold Hid Tu.status;rw[if_neg h10,if_neg (by omega),if_neg h4,if_neg (by omega)]
 have t10:((c:Int)==10)=false:=by rw[beq_eq_false_iff_ne];omega
 have t17:((c:Int)==17)=false:=by rw[beq_eq_false_iff_ne];omega
 have t19:((c:Int)==19)=false:=by rw[beq_eq_false_iff_ne];omega
 have t4:((c:Int)==4)=false:=by rw[beq_eq_false_iff_ne];omega
 have t8:((c:Int)==8)=false:=by rw[beq_eq_false_iff_ne];omega
 have t16:((c:Int)==16)=false:=by rw[beq_eq_false_iff_ne];omega
 clear h10 h17 h19 h4 h8 h16;go_enter func162,ntmps162;go_wp2;go_ret;exact⟨by rw[HS.o];rfl,rfl⟩
theorem jV (w:World):Calls prog 120 #[.int .i64 0] w fun e w'=>e=.returned (.tuple #[])∧w'=w:=by
 have HS:=H9 (vw 0 w);go_enter func120,ntmps120;go_wp2_with fail
 refine HS.o.mono ?_;rintro e w1 ⟨rfl,hw⟩;rw[hw];clear hw;go_wp2_with fail
 refine(aW _ none 0 0 w).mono ?_;rintro e w2 ⟨rfl,hw⟩;rw[hw];clear hw;go_wp2;go_end0
 exact⟨rfl,rfl⟩
theorem lI (c:Nat)(hc:c≠0)(w:World):Calls prog 120 #[.int .i64 (c:Int)] w fun e w'=>jU w (Tu.said (Tu.status c) []) e w':=by
 have HS:=H9 (vw c w);have t0:((c:Int)==0)=false:=by rw[beq_eq_false_iff_ne];omega
 have HN:=H9 (bB (Tu.status c) (Tu.status c:Nat) rfl w);clear hc;go_enter func120,ntmps120;go_wp2_with fail
 refine HS.o.mono ?_;rintro e w1 ⟨rfl,hw⟩;rw[hw];clear hw HS;go_wp2_with fail
 refine HN.o.mono ?_;rintro e w2 hG;have HG:=H9 hG;obtain⟨ao,cap,n,he,_,_,_⟩:=hG;unfold aX at he;subst he;go_wp2;exact⟨rfl,HG.o⟩
structure jI (w:World)(l:List (ByteArray×ByteArray))(fo:Option Addr)(ak nf:Nat):Prop where
 is:cu w fo ak nf (aB l)
 len:l.length=nf
 few:nf<=1000
 small:∀p∈l,p.1.size<=2000∧p.2.size<=2000
theorem jI.stay {w w':World}{l:List (ByteArray×ByteArray)}{fo:Option Addr}{ak nf:Nat}(h:jI w l fo ak nf)(hb:Below w.heap.size w w'):jI w' l fo ak nf:=⟨h.is.stay hb,h.len,h.few,h.small⟩
section
variable {g:Nat} {m t:ByteArray} {mi ln:Int} {l:List (ByteArray×ByteArray)} {fo:Option Addr} {ak nf:Nat} {bo:Option Addr} {aj nb:Nat} {w:World}
theorem jh (name:ByteArray)(hN:name.size<=2000)(h:jI w l fo ak nf){v:List UInt8}{c:Nat}(hv:Tu.one (Tu.vals name l)=(v,c))(hc:c≠9):
 Calls prog 85 #[.agg #[.pointer (some ⟨g,0,none⟩),.string m,.string t,.int .i64 mi,.slice fo nf ak,.int .i64 ln,.slice bo nb aj],.string name] w fun e w'=>e=.returned (.tuple #[.string ⟨v.toArray⟩,.bool (decide (c=0))])∧Below w.heap.size w w':=by
 have bQ:=(Below.refl _ w).alloc (Nat.le_refl _) (.cells #[.pointer (some ⟨g,0,none⟩),.string m,.string t,.int .i64 mi,.slice fo nf ak,.int .i64 ln,.slice bo nb aj] 123);have HO:=H9 (mq l name fo ak nf _ (h.stay bQ).is h.len (by have:=h.few;omega) h.small hN);rw[Tu.OM,Tu.JE,hv] at HO;unfold nL at HO;have t9:((c:Int) != 9)=true:=by rw[bne_iff_ne];omega
 have c4:(w.alloc (.cells #[.pointer (some ⟨g,0,none⟩),.string m,.string t,.int .i64 mi,.slice fo nf ak,.int .i64 ln,.slice bo nb aj] 123)).cell? ⟨w.heap.size,4,none⟩=some (.slice fo nf ak):=World.cell?_alloc_mark w _ _ _ 4;have jr:=H9 bQ;clear h bQ hv;generalize (⟨v.toArray⟩:ByteArray)=vb at *;have HT:Hid (∃b:Bool,((c:Int)==0)=b∧decide (c=0)=b):=by
  by_cases h0:c=0
  . subst h0;exact⟨true,rfl,rfl⟩
  . exact⟨false,by rw[beq_eq_false_iff_ne];omega,decide_eq_false h0⟩
 obtain⟨b,hb,hd⟩:=HT.o;rw[hd];clear hd HT hc;go_enter func85,ntmps85;go_wp2_with fail
 refine HO.o.mono ?_;rintro e w1 ⟨rfl,hb1⟩;have HB1:=H9 (then_ jr.o hb1);clear hb1 HO jr;go_wp2_with fail
 refine(aW 400 none 0 0 w1).mono ?_;rintro e w2 ⟨rfl,hw⟩;rw[hw];clear hw;go_wp2;go_ret2;exact⟨rfl,HB1.o⟩
theorem qL (name:ByteArray)(hN:name.size<=2000)(h:jI w l fo ak nf){v:List UInt8}(hv:Tu.one (Tu.vals name l)=(v,0)):
 Calls prog 85 #[.agg #[.pointer (some ⟨g,0,none⟩),.string m,.string t,.int .i64 mi,.slice fo nf ak,.int .i64 ln,.slice bo nb aj],.string name] w fun e w'=>e=.returned (.tuple #[.string ⟨v.toArray⟩,.bool true])∧Below w.heap.size w w':=jh name hN h hv (by decide)
theorem AX (name:ByteArray)(hN:name.size<=2000)(h:jI w l fo ak nf){v:List UInt8}(hv:Tu.one (Tu.vals name l)=(v,10)):
 Calls prog 85 #[.agg #[.pointer (some ⟨g,0,none⟩),.string m,.string t,.int .i64 mi,.slice fo nf ak,.int .i64 ln,.slice bo nb aj],.string name] w fun e w'=>e=.returned (.tuple #[.string ⟨v.toArray⟩,.bool false])∧Below w.heap.size w w':=jh name hN h hv (by decide)
theorem kQ (name:ByteArray)(hN:name.size<=2000)(h:jI w l fo ak nf){v:List UInt8}(hv:Tu.one (Tu.vals name l)=(v,9)):
 Calls prog 85 #[.agg #[.pointer (some ⟨g,0,none⟩),.string m,.string t,.int .i64 mi,.slice fo nf ak,.int .i64 ln,.slice bo nb aj],.string name] w fun e w'=>jU w (Tu.said 400 []) e w':=by
 have bQ:=(Below.refl _ w).alloc (Nat.le_refl _) (.cells #[.pointer (some ⟨g,0,none⟩),.string m,.string t,.int .i64 mi,.slice fo nf ak,.int .i64 ln,.slice bo nb aj] 123);have HO:=H9 (mq l name fo ak nf _ (h.stay bQ).is h.len (by have:=h.few;omega) h.small hN);rw[Tu.OM,Tu.JE,hv] at HO;unfold nL at HO;have c4:(w.alloc (.cells #[.pointer (some ⟨g,0,none⟩),.string m,.string t,.int .i64 mi,.slice fo nf ak,.int .i64 ln,.slice bo nb aj] 123)).cell? ⟨w.heap.size,4,none⟩=some (.slice fo nf ak):=World.cell?_alloc_mark w _ _ _ 4;have jr:=H9 bQ;clear h bQ hv;generalize (⟨v.toArray⟩:ByteArray)=vb at *;go_enter func85,ntmps85;go_wp2_with fail
 refine HO.o.mono ?_;rintro e w1 ⟨rfl,hb1⟩;have HB1:=H9 (then_ jr.o hb1);clear hb1 HO jr;go_wp2_with fail
 refine(bB 400 400 rfl w1).mono ?_;rintro e w2 hG;have HG:=H9 (hG.from_ HB1.o);obtain⟨ao,cap,n,he,_,_,_⟩:=hG;unfold aX at he;subst he;go_wp2;exact⟨rfl,HG.o⟩
end
def OX:ByteArray:=⟨#[67,111,110,116,101,110,116,45,76,101,110,103,116,104]⟩
def Rp.fault (st:Int)(l:List (ByteArray×ByteArray)):Nat:=if Rp.word st=[] then 11 else if 16<=l.length then 8 else if (Fd.vals OX l).length≠0 then 12 else 0
theorem GV (w:World)(st:Int)(l:List (ByteArray×ByteArray))(fo bo:Option Addr)(ak aj nb:Nat)(hl:cu w fo ak l.length (aB l))(hN:l.length<=1000000)(hs:∀p∈l,p.1.size<=2000∧p.2.size<=2000):
 Calls prog 144 #[.agg #[.int .i64 st,.slice fo l.length ak,.slice bo nb aj]] w fun e w'=>e=.returned (.int .i64 (Rp.fault st l:Nat))∧Below w.heap.size w w':=by
 have HX:Hid (∀W,gF w #[.int .i64 st,.slice fo l.length ak,.slice bo nb aj] 88 W->W.cell? ⟨w.heap.size,0,none⟩=some (.int .i64 st)∧W.cell? ⟨w.heap.size,1,none⟩=some (.slice fo l.length ak)∧W.cell? ⟨w.heap.size,2,none⟩=some (.slice bo nb aj)):=fun W h=>⟨h.cell 0,h.cell 1,h.cell 2⟩;have H0:=H9 (gF.made w #[.int .i64 st,.slice fo l.length ak,.slice bo nb aj] 88);have HA:=H9 (mh l OX fo ak l.length _ (hl.stay H0.o.below) rfl hN hs (by decide));have RS:=H9 (fun W=>yK st W);clear hl hs;obtain⟨x0,x1,x2⟩:=HX.o _ H0.o;go_enter func144,ntmps144;go_wp2_with fail
 refine(RS.o _).mono ?_;rintro e w1 ⟨rfl,hw1⟩;subst hw1;by_cases hwd:Rp.word st=[]
 . have HF:Hid (Rp.fault st l=11):=by unfold Hid Rp.fault;rw[if_pos hwd]
   have tw:((⟨(Rp.word st).toArray⟩:ByteArray).toList==([]:List UInt8))=true:=by rw[Lib.toList_data,hwd];rfl
   generalize (⟨(Rp.word st).toArray⟩:ByteArray)=wd at *;clear hwd;go_wp2;go_ret;exact⟨by rw[HF.o];rfl,H0.o.below⟩
 . have tw:((⟨(Rp.word st).toArray⟩:ByteArray).toList==([]:List UInt8))=false:=by rw[Lib.toList_data,beq_eq_false_iff_ne];simpa using hwd
   have HT:Hid (Rp.fault st l=if 16<=l.length then 8 else if (Fd.vals OX l).length≠0 then 12 else 0):=by unfold Hid Rp.fault;rw[if_neg hwd]
   generalize (⟨(Rp.word st).toArray⟩:ByteArray)=wd at *;clear hwd;by_cases h16:16<=l.length
   . have HF:Hid (Rp.fault st l=8):=by unfold Hid;rw[HT.o,if_pos h16]
     have t16:decide ((l.length:Int)≥16)=true:=by rw[decide_eq_true_eq];omega
     clear HT;go_wp2;go_ret;exact⟨by rw[HF.o];rfl,H0.o.below⟩
   . have t16:decide ((l.length:Int)≥16)=false:=by rw[decide_eq_false_iff_not];omega
     rw[if_neg h16] at HT;unfold OX at HA;go_wp2_with fail
     refine HA.o.mono ?_;rintro e w2 ⟨a2,c2,rfl,_,hb2⟩;have Ca:=H9 (H0.o.stay hb2);clear hb2 x0 x1 x2 HA;rw[show(⟨#[67,111,110,116,101,110,116,45,76,101,110,103,116,104]⟩:ByteArray)=OX from rfl];generalize (Fd.vals OX l).length=nv at *;by_cases hnv:0<nv
     . have HF:Hid (Rp.fault st l=12):=by unfold Hid;rw[HT.o,if_pos (by omega)]
       have tn:decide ((nv:Int) > 0)=true:=by rw[decide_eq_true_eq];omega
       clear HT;go_wp2;go_ret;exact⟨by rw[HF.o];rfl,Ca.o.below⟩
     . have HF:Hid (Rp.fault st l=0):=by unfold Hid;rw[HT.o,if_neg (by omega)]
       have tn:decide ((nv:Int) > 0)=false:=by rw[decide_eq_false_iff_not];omega
       clear HT;go_wp2;go_ret;exact⟨by rw[HF.o];rfl,Ca.o.below⟩
end Go.Proofs.YtjmndjmhjleabaaGreatDoor