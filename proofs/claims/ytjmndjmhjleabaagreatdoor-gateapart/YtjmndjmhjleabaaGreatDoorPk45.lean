/- Small texts, one behind the other: FbPow, TsB, TsC, TsD, TsE, RpF, TsG, TsF, TsI, TsK, TsJ, TsH, TsL, TsM. -/
import Derived.Test.YtjmndjmhjleabaaGreatDoorAl
import Derived.Test.YtjmndjmhjleabaaGreatDoorAm
import Derived.Test.YtjmndjmhjleabaaGreatDoorShelf
import Derived.Test.YtjmndjmhjleabaaGreatDoorBase
import Derived.Test.YtjmndjmhjleabaaGreatDoorPk4
import Derived.Lib.AppendIntMem
import Derived.Test.YtjmndjmhjleabaaGreatDoorPk37
import Derived.Test.YtjmndjmhjleabaaGreatDoorPk24
import Derived.Test.YtjmndjmhjleabaaGreatDoorPk31
import Derived.Test.YtjmndjmhjleabaaGreatDoorPk5
import Derived.Test.YtjmndjmhjleabaaGreatDoorPk39
import Derived.Test.YtjmndjmhjleabaaGreatDoorPk38
import Derived.Test.YtjmndjmhjleabaaGreatDoorPk26
import Derived.Test.YtjmndjmhjleabaaGreatDoorPk43
import Derived.Deep.RegionHeld3
import Derived.Deep.DeepCutAuto
import Derived.Test.YtjmndjmhjleabaaGreatDoorPk12
import Derived.Defers
import Derived.Recover
set_option maxHeartbeats 8000000
set_option maxRecDepth 100000
open Go.Proofs.Tryz
namespace Go.Proofs.YtjmndjmhjleabaaGreatDoor
open Go.RowKit
def nA (w:World):Prop:=Lib.TabIs prog w "internal/strconv.uint64pow10" .u64 Lib.pow10Tab
theorem nA.stay {w w':World}(h:nA w)(hb:aj w w'):nA w':=by
 unfold nA Lib.TabIs World.var? at h ⊢;cases hg:prog.globalNamed "internal/strconv.uint64pow10" with
 | none=>rw[hg] at h;cases h
 | some g =>
   rw[hg] at h;simp only[Option.bind_some] at h ⊢;cases hh:w.heap[g]? with
   | none=>rw[hh] at h;cases h
   | some o=>rw[hb.block g (aL.1 hh).1];exact h
theorem Es:∀(f n:Nat),n<10 ^ (f+1)->Lib.decDigits n=Ch.jH f n
 | 0, n, h => by
   rw[Lib.decDigits,dif_pos (by simpa using h)];rfl
 | f + 1, n, h => by
   rw[Lib.decDigits,Ch.jH];by_cases hn:n<10
   . rw[dif_pos hn,if_pos hn]
   . rw[dif_neg hn,if_neg hn,Es f (n / 10) (by rw[Nat.pow_succ] at h;omega)]
theorem uf (n:Nat)(hn:n<1000000000)(W:World)(hP:nA W):Calls prog 122 #[.int .i64 (n:Int)] W fun e w'=>e=.returned (.string ⟨(Ch.jH 8 n).toArray⟩)∧aj W w':=by
 have h:=Any.strconv_Itoa Tryz.lays171 (n:Int) (by omega) (by omega) W hP;rw[Lib.itoa_nonneg,Es 8 n (by simpa using hn)] at h;refine h.mono ?_;rintro e w' ⟨he,k,os,rfl⟩;exact⟨he,Lib.below_grow _ W (aM _) k os⟩
theorem Ij (nm v:ay)(x:Int)(w:World)(hI:∀W,aj w W->Calls prog 122 #[.int .i64 x] W fun e w'=>e=.returned (.string v)∧aj W w'):
 Calls prog 116 #[.string nm,.int .i64 x] w fun e w'=>e=.returned (.agg #[.string nm,.string v])∧aj w w':=by
 have jq:=(fJ _ w).alloc (aM _) (.cells #[.string ⟨#[]⟩,.string ⟨#[]⟩] 111);have HI:=H9 (hI _ jq);have oH:=H9 jq;clear hI jq;go_enter func116,ntmps116;go_wp2_with fail
 refine HI.o.mono ?_;rintro e w1 ⟨rfl,hb1⟩;have HB1:=H9 hb1;clear hb1;go_wp2_with fail
 refine(kF nm v w1).mono ?_;rintro e w2 ⟨rfl,hb2⟩;have abL:=then_ HB1.o hb2;have hr:w2.heap[w.heap.size]? = some (.cells #[.string ⟨#[]⟩,.string ⟨#[]⟩] 111 (0,0)):=(abL.block w.heap.size (by simp)).trans (fI w _);have c0:w2.cell? ⟨w.heap.size,0,none⟩=some (.string ⟨#[]⟩):=fK w2 _ 0 _ _ _ hr;have c1:w2.cell? ⟨w.heap.size,1,none⟩=some (.string ⟨#[]⟩):=fK w2 _ 1 _ _ _ hr;have y0:w2.frozen? ⟨w.heap.size,0,none⟩=false:=fM w2 _ 0 _ _ hr;have y1:w2.frozen? ⟨w.heap.size,1,none⟩=false:=fM w2 _ 1 _ _ hr;have HB:=H9 (((then_ oH.o abL).setCell (p:=⟨w.heap.size,0,none⟩) (aM _) (.string nm)).setCell (p:=⟨w.heap.size,1,none⟩) (aM _) (.string v));have HR:=H9 (fO _ _ 1 _ _ (.string v) (fO _ _ 0 _ _ (.string nm) hr));clear hb2 abL hr HB1 oH HI;go_wp2;generalize ((w2.setCell ⟨w.heap.size,0,none⟩ (.string nm)).setCell ⟨w.heap.size,1,none⟩ (.string v))=wf at *;have q0:wf.cell? ⟨w.heap.size,0,none⟩=some (.string nm):=fK wf _ 0 _ _ _ HR.o;have q1:wf.cell? ⟨w.heap.size,1,none⟩=some (.string v):=fK wf _ 1 _ _ _ HR.o;exact gy (v:=.agg #[.string nm,.string v]) (by simp[results,results116,go_sem,q0,q1]) rfl ⟨rfl,HB.o⟩
theorem oO (nm:ay)(n:Nat)(x:Int)(hx:(n:Int)=x)(hn:n<1000000000)(w:World)(hP:nA w):Calls prog 116 #[.string nm,.int .i64 x] w fun e w'=>e=.returned (.agg #[.string nm,.string (Tu.dec n)])∧aj w w':=by
 subst hx;exact Ij nm (Tu.dec n) n w (fun W hW=>uf n hn W (hP.stay hW))
theorem BQ (c:Nat)(w:World):
 Calls prog 162 #[.int .i64 (c:Int)] w fun e w'=>e=.returned (.int .i64 (Tu.status c:Nat))∧w'=w:=by
 by_cases h10:c=10
 . subst h10;go_enter func162,ntmps162;go_wp2;go_ret;exact⟨rfl,rfl⟩
 by_cases h17:c=17
 . subst h17;go_enter func162,ntmps162;go_wp2;go_ret;exact⟨rfl,rfl⟩
 by_cases h19:c=19
 . subst h19;go_enter func162,ntmps162;go_wp2;go_ret;exact⟨rfl,rfl⟩
 by_cases h4:c=4
 . subst h4;go_enter func162,ntmps162;go_wp2;go_ret;exact⟨rfl,rfl⟩
 by_cases h8:c=8
 . subst h8;go_enter func162,ntmps162;go_wp2;go_ret;exact⟨rfl,rfl⟩
 by_cases h16:c=16
 . subst h16;go_enter func162,ntmps162;go_wp2;go_ret;exact⟨rfl,rfl⟩
 have HS:Hid (Tu.status c=400):=by
  unfold Hid Tu.status;rw[if_neg h10,if_neg (by omega),if_neg h4,if_neg (by omega)]
 have t10:((c:Int)==10)=false:=by rw[aS];omega
 have t17:((c:Int)==17)=false:=by rw[aS];omega
 have t19:((c:Int)==19)=false:=by rw[aS];omega
 have t4:((c:Int)==4)=false:=by rw[aS];omega
 have t8:((c:Int)==8)=false:=by rw[aS];omega
 have t16:((c:Int)==16)=false:=by rw[aS];omega
 clear h10 h17 h19 h4 h8 h16;go_enter func162,ntmps162;go_wp2;go_ret;exact⟨by rw[HS.o];rfl,rfl⟩
theorem qJ (w:World):Calls prog 120 #[.int .i64 0] w fun e w'=>e=.returned (.tuple #[])∧w'=w:=by
 have HS:=H9 (BQ 0 w);go_enter func120,ntmps120;go_wp2_with fail
 refine HS.o.mono ?_;rintro e w1 ⟨rfl,hw⟩;rw[hw];clear hw;go_wp2_with fail
 refine(iR _ none 0 0 w).mono ?_;rintro e w2 ⟨rfl,hw⟩;rw[hw];clear hw;go_wp2;go_end0
 exact⟨rfl,rfl⟩
theorem sP (c:Nat)(hc:c≠0)(w:World):Calls prog 120 #[.int .i64 (c:Int)] w fun e w'=>qI w (Tu.said (Tu.status c) []) e w':=by
 have HS:=H9 (BQ c w);have t0:((c:Int)==0)=false:=by rw[aS];omega
 have HN:=H9 (iW (Tu.status c) (Tu.status c:Nat) rfl w);clear hc;go_enter func120,ntmps120;go_wp2_with fail
 refine HS.o.mono ?_;rintro e w1 ⟨rfl,hw⟩;rw[hw];clear hw HS;go_wp2_with fail
 refine HN.o.mono ?_;rintro e w2 hG;have HG:=H9 hG;obtain⟨ao,cap,n,he,_,_,_⟩:=hG;unfold iT at he;subst he;go_wp2;exact⟨rfl,HG.o⟩
structure pX (w:World)(l:au)(fo:ak)(gM nf:Nat):Prop where
 is:jo w fo gM nf (gU l)
 len:l.length=nf
 few:nf<=1000
 small:∀p∈l,p.1.size<=2000∧p.2.size<=2000
theorem pX.stay {w w':World}{l:au}{fo:ak}{gM nf:Nat}(h:pX w l fo gM nf)(hb:aj w w'):pX w' l fo gM nf:=⟨h.is.stay hb,h.len,h.few,h.small⟩
section
variable {g:Nat} {m t:ay} {mi ln:Int} {l:au} {fo:ak} {gM nf:Nat} {bo:ak} {gK nb:Nat} {w:World}
theorem oP (name:ay)(hN:name.size<=2000)(h:pX w l fo gM nf){v:av}{c:Nat}(hv:Tu.one (Tu.vals name l)=(v,c))(hc:c≠9):
 Calls prog 85 #[.agg #[.pointer (some ⟨g,0,none⟩),.string m,.string t,.int .i64 mi,.slice fo nf gM,.int .i64 ln,.slice bo nb gK],.string name] w fun e w'=>e=.returned (.tuple #[.string ⟨v.toArray⟩,.bool (decide (c=0))])∧aj w w':=by
 have jq:=(fJ _ w).alloc (aM _) (.cells #[.pointer (some ⟨g,0,none⟩),.string m,.string t,.int .i64 mi,.slice fo nf gM,.int .i64 ln,.slice bo nb gK] 123);have HO:=H9 (uh l name fo gM nf _ (h.stay jq).is h.len (by have:=h.few;omega) h.small hN);rw[Tu.Wp,Tu.QB,hv] at HO;unfold rQ at HO;have t9:((c:Int) != 9)=true:=by rw[cZ];omega
 have c4:(w.alloc (.cells #[.pointer (some ⟨g,0,none⟩),.string m,.string t,.int .i64 mi,.slice fo nf gM,.int .i64 ln,.slice bo nb gK] 123)).cell? ⟨w.heap.size,4,none⟩=some (.slice fo nf gM):=World.cell?_alloc_mark w _ _ _ 4;have oH:=H9 jq;clear h jq hv;generalize (⟨v.toArray⟩:ay)=vb at *;have HT:Hid (∃b:Bool,((c:Int)==0)=b∧decide (c=0)=b):=by
  by_cases h0:c=0
  . subst h0;exact⟨true,rfl,rfl⟩
  . exact⟨false,by rw[aS];omega,aJ h0⟩
 obtain⟨b,hb,hd⟩:=HT.o;rw[hd];clear hd HT hc;go_enter func85,ntmps85;go_wp2_with fail
 refine HO.o.mono ?_;rintro e w1 ⟨rfl,hb1⟩;have HB1:=H9 (then_ oH.o hb1);clear hb1 HO oH;go_wp2_with fail
 refine(iR 400 none 0 0 w1).mono ?_;rintro e w2 ⟨rfl,hw⟩;rw[hw];clear hw;go_wp2;go_ret2;exact⟨rfl,HB1.o⟩
theorem yR (name:ay)(hN:name.size<=2000)(h:pX w l fo gM nf){v:av}(hv:Tu.one (Tu.vals name l)=(v,0)):
 Calls prog 85 #[.agg #[.pointer (some ⟨g,0,none⟩),.string m,.string t,.int .i64 mi,.slice fo nf gM,.int .i64 ln,.slice bo nb gK],.string name] w fun e w'=>e=.returned (.tuple #[.string ⟨v.toArray⟩,.bool true])∧aj w w':=oP name hN h hv (by decide)
theorem Ik (name:ay)(hN:name.size<=2000)(h:pX w l fo gM nf){v:av}(hv:Tu.one (Tu.vals name l)=(v,10)):
 Calls prog 85 #[.agg #[.pointer (some ⟨g,0,none⟩),.string m,.string t,.int .i64 mi,.slice fo nf gM,.int .i64 ln,.slice bo nb gK],.string name] w fun e w'=>e=.returned (.tuple #[.string ⟨v.toArray⟩,.bool false])∧aj w w':=oP name hN h hv (by decide)
theorem rV (name:ay)(hN:name.size<=2000)(h:pX w l fo gM nf){v:av}(hv:Tu.one (Tu.vals name l)=(v,9)):
 Calls prog 85 #[.agg #[.pointer (some ⟨g,0,none⟩),.string m,.string t,.int .i64 mi,.slice fo nf gM,.int .i64 ln,.slice bo nb gK],.string name] w fun e w'=>qI w (Tu.said 400 []) e w':=by
 have jq:=(fJ _ w).alloc (aM _) (.cells #[.pointer (some ⟨g,0,none⟩),.string m,.string t,.int .i64 mi,.slice fo nf gM,.int .i64 ln,.slice bo nb gK] 123);have HO:=H9 (uh l name fo gM nf _ (h.stay jq).is h.len (by have:=h.few;omega) h.small hN);rw[Tu.Wp,Tu.QB,hv] at HO;unfold rQ at HO;have c4:(w.alloc (.cells #[.pointer (some ⟨g,0,none⟩),.string m,.string t,.int .i64 mi,.slice fo nf gM,.int .i64 ln,.slice bo nb gK] 123)).cell? ⟨w.heap.size,4,none⟩=some (.slice fo nf gM):=World.cell?_alloc_mark w _ _ _ 4;have oH:=H9 jq;clear h jq hv;generalize (⟨v.toArray⟩:ay)=vb at *;go_enter func85,ntmps85;go_wp2_with fail
 refine HO.o.mono ?_;rintro e w1 ⟨rfl,hb1⟩;have HB1:=H9 (then_ oH.o hb1);clear hb1 HO oH;go_wp2_with fail
 refine(iW 400 400 rfl w1).mono ?_;rintro e w2 hG;have HG:=H9 (hG.from_ HB1.o);obtain⟨ao,cap,n,he,_,_,_⟩:=hG;unfold iT at he;subst he;go_wp2;exact⟨rfl,HG.o⟩
end
theorem Tu.Lh (vs:List ay):(Tu.one vs).2=0∨(Tu.one vs).2=9∨(Tu.one vs).2=10:=by
 unfold Tu.one;split
 . exact Or.inr (Or.inr rfl)
 . exact Or.inl rfl
 . exact Or.inr (Or.inl rfl)
theorem Tu.lg {a b:ay}(h:Ch.lower a.data.toList=Ch.lower b.data.toList)(l:au):Tu.vals a l=Tu.vals b l:=by unfold Tu.vals;rw[h]
theorem Tu.um (l:au):Tu.vals Tu.AB l=Tu.vals Tu.YO l:=Tu.lg (by decide +kernel) l
theorem Tu.wK (l:au):Tu.vals Tu.Dw l=Tu.vals Tu.Dv l:=Tu.lg (by decide +kernel) l
theorem Tu.Wu (l:au):Tu.vals Tu.Dx l=Tu.vals Tu.Vn l:=Tu.lg (by decide +kernel) l
theorem Tu.Li (l:au):Tu.vals Tu.MW l=Tu.vals Tu.nUM l:=Tu.lg (by decide +kernel) l
theorem Tu.Wv (l:au):Tu.vals Tu.vE l=Tu.vals Tu.nUO l:=Tu.lg (by decide +kernel) l
def Tu.fCT:ay:=⟨#[67,111,110,116,101,110,116,45,84,121,112,101]⟩
theorem Tu.Et (l:au):Tu.vals Tu.fCT l=Tu.vals Tu.MV l:=Tu.lg (by decide +kernel) l
section
variable {g:Nat} {m t:ay} {mi ln:Int} {l:au} {fo:ak} {gM nf:Nat} {bo:ak} {gK nb:Nat} {w:World}
theorem pX.val (h:pX w l fo gM nf)(name:ay):(Tu.one (Tu.vals name l)).1.length<=2000:=Tu.Wq l name 2000 (fun p hp=>(h.small p hp).2)
theorem uT {w W:World}(hW:Below (w.alloc (.cells #[.pointer (some ⟨g,0,none⟩),.string m,.string t,.int .i64 mi,.slice fo nf gM,.int .i64 ln,.slice bo nb gK] 123)).heap.size (w.alloc (.cells #[.pointer (some ⟨g,0,none⟩),.string m,.string t,.int .i64 mi,.slice fo nf gM,.int .i64 ln,.slice bo nb gK] 123)) W):W.cell? ⟨w.heap.size,0,none⟩=some (.pointer (some ⟨g,0,none⟩))∧W.cell? ⟨w.heap.size,1,none⟩=some (.string m)∧W.cell? ⟨w.heap.size,2,none⟩=some (.string t)∧W.cell? ⟨w.heap.size,3,none⟩=some (.int .i64 mi)∧W.cell? ⟨w.heap.size,4,none⟩=some (.slice fo nf gM)∧W.cell? ⟨w.heap.size,5,none⟩=some (.int .i64 ln)∧W.cell? ⟨w.heap.size,6,none⟩=some (.slice bo nb gK):=by
 have r:W.heap[w.heap.size]? = some (.cells #[.pointer (some ⟨g,0,none⟩),.string m,.string t,.int .i64 mi,.slice fo nf gM,.int .i64 ln,.slice bo nb gK] 123 (0,0)):=(hW.block w.heap.size (by simp)).trans (fI w _);exact⟨fK W _ 0 _ _ _ r,fK W _ 1 _ _ _ r,fK W _ 2 _ _ _ r,fK W _ 3 _ _ _ r,fK W _ 4 _ _ _ r,fK W _ 5 _ _ _ r,fK W _ 6 _ _ _ r⟩
theorem zV (name:ay)(hN:name.size<=2000)(h:pX w l fo gM nf)(hc:(Tu.one (Tu.vals name l)).2=10):
 Calls prog 127 #[.agg #[.pointer (some ⟨g,0,none⟩),.string m,.string t,.int .i64 mi,.slice fo nf gM,.int .i64 ln,.slice bo nb gK],.string name] w fun e w'=>e=.returned (.tuple #[.int .i64 0,.bool false])∧aj w w':=by
 have jq:=(fJ _ w).alloc (aM _) (.cells #[.pointer (some ⟨g,0,none⟩),.string m,.string t,.int .i64 mi,.slice fo nf gM,.int .i64 ln,.slice bo nb gK] 123);generalize hv:Tu.one (Tu.vals name l)=r at *;obtain⟨v,c⟩:=r;simp only at hc;subst hc;have HT:=H9 (Ik (g:=g) (m:=m) (t:=t) (mi:=mi) (ln:=ln) (bo:=bo) (gK:=gK) (nb:=nb) name hN (h.stay jq) hv);have oH:=H9 jq;obtain⟨x0,x1,x2,x3,x4,x5,x6⟩:=uT (g:=g) (m:=m) (t:=t) (mi:=mi) (ln:=ln) (fo:=fo) (gM:=gM) (nf:=nf) (bo:=bo) (gK:=gK) (nb:=nb) (w:=w) (fJ _ _);clear h jq hv;generalize (⟨v.toArray⟩:ay)=vb at *;go_enter func127,ntmps127;go_wp2_with fail
 refine HT.o.mono ?_;rintro e w1 ⟨rfl,hb1⟩;have HB1:=H9 (then_ oH.o hb1);clear hb1 HT oH;go_wp2;go_ret2;exact⟨rfl,HB1.o⟩
theorem BR (name:ay)(hN:name.size<=2000)(h:pX w l fo gM nf)(hc:(Tu.one (Tu.vals name l)).2≠10){x:Int}(hx:Tu.jB (Tu.one (Tu.vals name l))=(x,true)):
 Calls prog 127 #[.agg #[.pointer (some ⟨g,0,none⟩),.string m,.string t,.int .i64 mi,.slice fo nf gM,.int .i64 ln,.slice bo nb gK],.string name] w fun e w'=>e=.returned (.tuple #[.int .i64 x,.bool true])∧aj w w':=by
 have jq:=(fJ _ w).alloc (aM _) (.cells #[.pointer (some ⟨g,0,none⟩),.string m,.string t,.int .i64 mi,.slice fo nf gM,.int .i64 ln,.slice bo nb gK] 123);have hz:=h.val name;generalize hv:Tu.one (Tu.vals name l)=r at *;obtain⟨v,c⟩:=r;simp only at hc hz;unfold Tu.jB at hx;rw[if_neg hc] at hx;injection hx with hx1 hx2;rw[dh,bR] at hx2;obtain⟨hx2,hx3⟩:=hx2;simp only at hx1 hx2 hx3;subst hx3;clear hc;have HT:=H9 (yR (g:=g) (m:=m) (t:=t) (mi:=mi) (ln:=ln) (bo:=bo) (gK:=gK) (nb:=nb) name hN (h.stay jq) hv);have Lj:Hid (∀W,Calls prog 124 #[.string ⟨v.toArray⟩] W fun e w'=>e=.returned (.tuple #[.int .i64 x,.bool true])∧w'=W):=fun W=>by
  have:=oz ⟨v.toArray⟩ W (by show v.toArray.size<=_;rw[bM];unfold maxLen;omega);rw[show(⟨v.toArray⟩:ay).data.toList=v from by simp,hx1,hx2] at this;exact this
 have oH:=H9 jq;obtain⟨x0,x1,x2,x3,x4,x5,x6⟩:=uT (g:=g) (m:=m) (t:=t) (mi:=mi) (ln:=ln) (fo:=fo) (gM:=gM) (nf:=nf) (bo:=bo) (gK:=gK) (nb:=nb) (w:=w) (fJ _ _);clear h jq hv hx1 hx2 hz;generalize (⟨v.toArray⟩:ay)=vb at *;go_enter func127,ntmps127;go_wp2_with fail
 refine HT.o.mono ?_;rintro e w1 ⟨rfl,hb1⟩;have HB1:=H9 (then_ oH.o hb1);clear hb1 HT oH;go_wp2_with fail
 refine(Lj.o w1).mono ?_;rintro e w2 ⟨rfl,hw⟩;rw[hw];clear hw;go_wp2_with fail
 refine(iR 400 none 0 0 w1).mono ?_;rintro e w2 ⟨rfl,hw⟩;rw[hw];clear hw;go_wp2;go_ret2;exact⟨rfl,HB1.o⟩
theorem Eu (name:ay)(hN:name.size<=2000)(h:pX w l fo gM nf)(hx:(Tu.jB (Tu.one (Tu.vals name l))).2=false):
 Calls prog 127 #[.agg #[.pointer (some ⟨g,0,none⟩),.string m,.string t,.int .i64 mi,.slice fo nf gM,.int .i64 ln,.slice bo nb gK],.string name] w fun e w'=>qI w (Tu.said 400 []) e w':=by
 have jq:=(fJ _ w).alloc (aM _) (.cells #[.pointer (some ⟨g,0,none⟩),.string m,.string t,.int .i64 mi,.slice fo nf gM,.int .i64 ln,.slice bo nb gK] 123);have hz:=h.val name;have hco:=Tu.Lh (Tu.vals name l);generalize hv:Tu.one (Tu.vals name l)=r at *;obtain⟨v,c⟩:=r;have oH:=H9 jq;obtain⟨x0,x1,x2,x3,x4,x5,x6⟩:=uT (g:=g) (m:=m) (t:=t) (mi:=mi) (ln:=ln) (fo:=fo) (gM:=gM) (nf:=nf) (bo:=bo) (gK:=gK) (nb:=nb) (w:=w) (fJ _ _);simp only at hco hz;unfold Tu.jB at hx;by_cases Zo:c=9
 . subst Zo;have HT:=H9 (rV (g:=g) (m:=m) (t:=t) (mi:=mi) (ln:=ln) (bo:=bo) (gK:=gK) (nb:=nb) name hN (h.stay jq) hv);clear h jq hv hz hx hco;go_enter func127,ntmps127;go_wp2_with fail
   refine HT.o.mono ?_;rintro e w2 hG;have HG:=H9 (hG.from_ oH.o);obtain⟨ao,cap,n,he,_,_,_⟩:=hG;unfold iT at he;subst he;go_wp2;exact⟨rfl,HG.o⟩
 . have ahG:c≠10:=fun e=>by subst e;rw[if_pos rfl] at hx;cases hx
   obtain rfl:c=0:=by omega
   rw[if_neg (by simp)] at hx;have hx2:(Ch.number 10 9 v).2=false:=by
    cases e:(Ch.number 10 9 v).2 with
    | false=>rfl
    | true=>simp[e] at hx
   have HT:=H9 (yR (g:=g) (m:=m) (t:=t) (mi:=mi) (ln:=ln) (bo:=bo) (gK:=gK) (nb:=nb) name hN (h.stay jq) hv);have Lj:Hid (∀W,Calls prog 124 #[.string ⟨v.toArray⟩] W fun e w'=>e=.returned (.tuple #[.int .i64 (Ch.number 10 9 v).1,.bool false])∧w'=W):=fun W=>by
    have:=oz ⟨v.toArray⟩ W (by show v.toArray.size<=_;rw[bM];unfold maxLen;omega);rw[show(⟨v.toArray⟩:ay).data.toList=v from by simp,hx2] at this;exact this
   clear h jq hv hz hx hco hx2 Zo ahG;generalize (Ch.number 10 9 v).1=y at *;generalize (⟨v.toArray⟩:ay)=vb at *;go_enter func127,ntmps127;go_wp2_with fail
   refine HT.o.mono ?_;rintro e w1 ⟨rfl,hb1⟩;have HB1:=H9 (then_ oH.o hb1);clear hb1 HT oH;go_wp2_with fail
   refine(Lj.o w1).mono ?_;rintro e w2 ⟨rfl,hw⟩;rw[hw];clear hw;go_wp2_with fail
   refine(iW 400 400 rfl w1).mono ?_;rintro e w2 hG;have HG:=H9 (hG.from_ HB1.o);obtain⟨ao,cap,n,he,_,_,_⟩:=hG;unfold iT at he;subst he;go_wp2;exact⟨rfl,HG.o⟩
end
section
variable {g:Nat} {m t:ay} {mi ln:Int} {l:au} {fo:ak} {gM nf:Nat} {bo:ak} {gK nb:Nat} {w:World}
theorem qI.ends {w w1 w2:World}{r:Tu.zk}{e:Ending}(hb:aj w w1)(hG:qI w1 r e w2):Hid (qI w r e w2)∧∃(ao:ak) (cap n:Nat),e=iT (r.1:Int) ao n cap:=by
 refine⟨hG.from_ hb,?_⟩;obtain⟨ao,cap,n,he,_⟩:=hG;exact⟨ao,cap,n,he⟩
theorem Tu.Io {r:av×Nat}(hc:r.2≠10){x:Int}(hx:Tu.jB r=(x,true)):0<=x:=by
 unfold Tu.jB at hx;rw[if_neg hc] at hx;injection hx with h1 h2;rw[dh] at h2;rw[<-h1];exact(Ch.qK h2.1).1
theorem Tu.EB {r:av×Nat}(hc:r.2=10):Tu.jB r=(-1,true):=by unfold Tu.jB;rw[if_pos hc]
def Tu.xP (l:au):Prop:=(Tu.one (Tu.vals Tu.Vn l)).2=9∨((Tu.one (Tu.vals Tu.Vn l)).2=0∧(Tu.one (Tu.vals Tu.Vn l)).1≠Tu.yL.data.toList)∨(0<=(Tu.jB (Tu.one (Tu.vals Tu.Dv l))).1<->(Tu.one (Tu.vals Tu.Vn l)).2=0)
theorem Sw (h:pX w l fo gM nf)(hx:(Tu.jB (Tu.one (Tu.vals Tu.Dv l))).2=false):
 Calls prog 118 #[.agg #[.pointer (some ⟨g,0,none⟩),.string m,.string t,.int .i64 mi,.slice fo nf gM,.int .i64 ln,.slice bo nb gK]] w fun e w'=>qI w (Tu.said 400 []) e w':=by
 have jq:=(fJ _ w).alloc (aM _) (.cells #[.pointer (some ⟨g,0,none⟩),.string m,.string t,.int .i64 mi,.slice fo nf gM,.int .i64 ln,.slice bo nb gK] 123);have oH:=H9 jq;obtain⟨x0,x1,x2,x3,x4,x5,x6⟩:=uT (g:=g) (m:=m) (t:=t) (mi:=mi) (ln:=ln) (fo:=fo) (gM:=gM) (nf:=nf) (bo:=bo) (gK:=gK) (nb:=nb) (w:=w) (fJ _ _);have HN:=H9 (Eu (g:=g) (m:=m) (t:=t) (mi:=mi) (ln:=ln) (bo:=bo) (gK:=gK) (nb:=nb) Tu.Dw (by decide) (h.stay jq) (by rw[Tu.wK];exact hx));unfold Tu.Dw at HN;clear h jq hx;go_enter func118,ntmps118;go_wp2_with fail
 refine HN.o.mono ?_;rintro e w2 hG;obtain⟨HG,ao,cap,n,he⟩:=hG.ends oH.o;unfold iT at he;subst he;go_wp2;exact⟨rfl,HG.o⟩
theorem Sy (h:pX w l fo gM nf)(hx:(Tu.jB (Tu.one (Tu.vals Tu.Dv l))).2=true):
 (Tu.xP l->Calls prog 118 #[.agg #[.pointer (some ⟨g,0,none⟩),.string m,.string t,.int .i64 mi,.slice fo nf gM,.int .i64 ln,.slice bo nb gK]] w fun e w'=>qI w (Tu.said 400 []) e w') ∧
 (¬Tu.xP l->Calls prog 118 #[.agg #[.pointer (some ⟨g,0,none⟩),.string m,.string t,.int .i64 mi,.slice fo nf gM,.int .i64 ln,.slice bo nb gK]] w fun e w'=>e=.returned (.int .i64 (Tu.jB (Tu.one (Tu.vals Tu.Dv l))).1)∧aj w w'):=by
 have jq:=(fJ _ w).alloc (aM _) (.cells #[.pointer (some ⟨g,0,none⟩),.string m,.string t,.int .i64 mi,.slice fo nf gM,.int .i64 ln,.slice bo nb gK] 123);have oH:=H9 jq;have HC:Hid (∀W,Below (w.alloc (.cells #[.pointer (some ⟨g,0,none⟩),.string m,.string t,.int .i64 mi,.slice fo nf gM,.int .i64 ln,.slice bo nb gK] 123)).heap.size (w.alloc (.cells #[.pointer (some ⟨g,0,none⟩),.string m,.string t,.int .i64 mi,.slice fo nf gM,.int .i64 ln,.slice bo nb gK] 123)) W->W.cell? ⟨w.heap.size,0,none⟩=some (.pointer (some ⟨g,0,none⟩))∧W.cell? ⟨w.heap.size,1,none⟩=some (.string m)∧W.cell? ⟨w.heap.size,2,none⟩=some (.string t)∧W.cell? ⟨w.heap.size,3,none⟩=some (.int .i64 mi)∧W.cell? ⟨w.heap.size,4,none⟩=some (.slice fo nf gM)∧W.cell? ⟨w.heap.size,5,none⟩=some (.int .i64 ln)∧W.cell? ⟨w.heap.size,6,none⟩=some (.slice bo nb gK)):=fun W hW=>uT hW;obtain⟨x0,x1,x2,x3,x4,x5,x6⟩:=HC.o _ (fJ _ _);have key:∃(y:Int) (told:Bool),Hid ((Tu.jB (Tu.one (Tu.vals Tu.Dv l))).1=(if told then y else -1)∧(told=true->0<=y))∧∀W,aj w W->Calls prog 127 #[.agg #[.pointer (some ⟨g,0,none⟩),.string m,.string t,.int .i64 mi,.slice fo nf gM,.int .i64 ln,.slice bo nb gK],.string Tu.Dw] W fun e w'=>e=.returned (.tuple #[.int .i64 y,.bool told])∧aj W w':=by
  by_cases hc:(Tu.one (Tu.vals Tu.Dv l)).2=10
  . exact⟨0,false,⟨by rw[Tu.EB hc];rfl,fun e=>by cases e⟩,fun W hW=>zV Tu.Dw (by decide) (h.stay hW) (by rw[Tu.wK];exact hc)⟩
  . generalize hy:Tu.jB (Tu.one (Tu.vals Tu.Dv l))=r at *;obtain⟨y,b⟩:=r;simp only at hx;subst hx;exact⟨y,true,⟨rfl,fun _=>Tu.Io hc hy⟩,fun W hW=>BR Tu.Dw (by decide) (h.stay hW) (by rw[Tu.wK];exact hc) (by rw[Tu.wK];exact hy)⟩
 obtain⟨y,told,HY,Lx⟩:=key;have Lj:=H9 (Lx _ jq);unfold Tu.Dw at Lj;have hco:=Tu.Lh (Tu.vals Tu.Vn l);unfold Tu.xP;generalize hv:Tu.one (Tu.vals Tu.Vn l)=r at *;obtain⟨v,c⟩:=r;have hvD:Tu.one (Tu.vals Tu.Dx l)=(v,c):=by rw[Tu.Wu];exact hv
 simp only at hco;have HF:=H9 h;clear h jq hv Lx hx;generalize (Tu.jB (Tu.one (Tu.vals Tu.Dv l))).1=z at *;rcases hco with rfl | rfl | rfl
 . have uy:Hid (∀W,aj w W->Calls prog 85 #[.agg #[.pointer (some ⟨g,0,none⟩),.string m,.string t,.int .i64 mi,.slice fo nf gM,.int .i64 ln,.slice bo nb gK],.string Tu.Dx] W fun e w'=>e=.returned (.tuple #[.string ⟨v.toArray⟩,.bool true])∧aj W w'):=fun W hW=>yR Tu.Dx (by decide) (HF.o.stay hW) hvD;unfold Tu.Dx at uy;obtain⟨b1,hb1⟩:∃b,((⟨v.toArray⟩:ay).toList==([49]:av))=b:=⟨_,rfl⟩;have e1:v=Tu.yL.data.toList<->b1=true:=by rw[<-hb1];exact Tu.eqV v _
   have H1e:=H9 e1;clear e1 hvD;generalize (⟨v.toArray⟩:ay)=vb at *;refine⟨fun hbad=>?_,fun hok=>?_⟩
   . have EC:=H9 hbad;clear hbad;go_enter func118,ntmps118;go_wp2_with fail
     refine Lj.o.mono ?_;rintro e w1 ⟨rfl,hw1⟩;have HB1:=H9 (then_ oH.o hw1);clear x0 x1 x2 x3 x4 x5 x6;obtain⟨x0,x1,x2,x3,x4,x5,x6⟩:=HC.o _ hw1;clear hw1 Lj;go_wp2_with fail
     refine(uy.o w1 HB1.o).mono ?_;rintro e w2 ⟨rfl,hw2⟩;have HB2:=H9 (then_ HB1.o hw2);clear hw2 uy x0 x1 x2 x3 x4 x5 x6;cases b1 with
     | false =>
       go_wp2_with fail
       refine(iW 400 400 rfl w2).mono ?_;rintro e w9 hG;obtain⟨HG,ao,cap,n,he⟩:=hG.ends HB2.o;unfold iT at he;subst he;clear hG;go_wp2;exact⟨rfl,HG.o⟩
     | true =>
       go_wp2_with fail
       refine(iR 400 none 0 0 w2).mono ?_;rintro e w3 ⟨rfl,hw⟩;rw[hw];clear hw;cases told with
       | false =>
         exfalso;have h1:=EC.o;have h2:=HY.o.1;simp only[dI,if_false] at h2;rcases h1 with h1 | h1 | h1
         . cases h1
         . exact h1.2 (H1e.o.2 (by first | exact rfl | trivial))
         . have:=h1.2 (by first | exact rfl | trivial);omega
       | true =>
         go_wp2_with fail
         refine(iW 400 400 rfl w2).mono ?_;rintro e w9 hG;obtain⟨HG,ao,cap,n,he⟩:=hG.ends HB2.o;unfold iT at he;subst he;clear hG;go_wp2;exact⟨rfl,HG.o⟩
   . have qy:=H9 hok;clear hok;have hb:b1=true:=by
      cases b1 with
      | true=>rfl
      | false=>exact absurd (Or.inr (Or.inl ⟨rfl,fun e=>by have:=H1e.o.1 e;cases this⟩)) qy.o
     subst hb;have ht:told=false:=by
      cases told with
      | false=>rfl
      | true =>
        refine absurd (Or.inr (Or.inr ⟨fun _=>rfl,fun _=>?_⟩)) qy.o;have h2:=HY.o.1;have h3:=HY.o.2 rfl;rw[h2];exact h3
     subst ht;have hz:z=-1:=HY.o.1;subst hz;go_enter func118,ntmps118;go_wp2_with fail
     refine Lj.o.mono ?_;rintro e w1 ⟨rfl,hw1⟩;have HB1:=H9 (then_ oH.o hw1);clear x0 x1 x2 x3 x4 x5 x6;obtain⟨x0,x1,x2,x3,x4,x5,x6⟩:=HC.o _ hw1;clear hw1 Lj;go_wp2_with fail
     refine(uy.o w1 HB1.o).mono ?_;rintro e w2 ⟨rfl,hw2⟩;have HB2:=H9 (then_ HB1.o hw2);clear hw2 uy x0 x1 x2 x3 x4 x5 x6;go_wp2_with fail
     refine(iR 400 none 0 0 w2).mono ?_;rintro e w3 ⟨rfl,hw⟩;rw[hw];clear hw;go_wp2_with fail
     refine(iR 400 none 0 0 w2).mono ?_;rintro e w3 ⟨rfl,hw⟩;rw[hw];clear hw;go_wp2;go_ret;exact⟨rfl,HB2.o⟩
 . refine⟨fun _=>?_,fun hok=>absurd (Or.inl rfl) hok⟩;have uy:Hid (∀W,aj w W->Calls prog 85 #[.agg #[.pointer (some ⟨g,0,none⟩),.string m,.string t,.int .i64 mi,.slice fo nf gM,.int .i64 ln,.slice bo nb gK],.string Tu.Dx] W fun e w'=>qI W (Tu.said 400 []) e w'):=fun W hW=>rV Tu.Dx (by decide) (HF.o.stay hW) hvD;unfold Tu.Dx at uy;clear hvD;go_enter func118,ntmps118;go_wp2_with fail
   refine Lj.o.mono ?_;rintro e w1 ⟨rfl,hw1⟩;have HB1:=H9 (then_ oH.o hw1);clear x0 x1 x2 x3 x4 x5 x6;obtain⟨x0,x1,x2,x3,x4,x5,x6⟩:=HC.o _ hw1;clear hw1 Lj;go_wp2_with fail
   refine(uy.o w1 HB1.o).mono ?_;rintro e w9 hG;obtain⟨HG,ao,cap,n,he⟩:=hG.ends HB1.o;unfold iT at he;subst he;clear hG;go_wp2;exact⟨rfl,HG.o⟩
 . have uy:Hid (∀W,aj w W->Calls prog 85 #[.agg #[.pointer (some ⟨g,0,none⟩),.string m,.string t,.int .i64 mi,.slice fo nf gM,.int .i64 ln,.slice bo nb gK],.string Tu.Dx] W fun e w'=>e=.returned (.tuple #[.string ⟨v.toArray⟩,.bool false])∧aj W w'):=fun W hW=>Ik Tu.Dx (by decide) (HF.o.stay hW) hvD;unfold Tu.Dx at uy;clear hvD;generalize (⟨v.toArray⟩:ay)=vb at *;cases told with
   | false =>
     have hz:z=-1:=HY.o.1;refine⟨fun _=>?_,fun hok=>absurd (Or.inr (Or.inr ⟨fun e=>by omega,fun e=>by cases e⟩)) hok⟩;go_enter func118,ntmps118;go_wp2_with fail
     refine Lj.o.mono ?_;rintro e w1 ⟨rfl,hw1⟩;have HB1:=H9 (then_ oH.o hw1);clear x0 x1 x2 x3 x4 x5 x6;obtain⟨x0,x1,x2,x3,x4,x5,x6⟩:=HC.o _ hw1;clear hw1 Lj;go_wp2_with fail
     refine(uy.o w1 HB1.o).mono ?_;rintro e w2 ⟨rfl,hw2⟩;have HB2:=H9 (then_ HB1.o hw2);clear hw2 uy x0 x1 x2 x3 x4 x5 x6;go_wp2_with fail
     refine(iR 400 none 0 0 w2).mono ?_;rintro e w3 ⟨rfl,hw⟩;rw[hw];clear hw;go_wp2_with fail
     refine(iW 400 400 rfl w2).mono ?_;rintro e w9 hG;obtain⟨HG,ao,cap,n,he⟩:=hG.ends HB2.o;unfold iT at he;subst he;clear hG;go_wp2;exact⟨rfl,HG.o⟩
   | true =>
     have hz:z=y:=HY.o.1;subst hz;have hpos:=HY.o.2 rfl;refine⟨fun hbad=>?_,fun _=>?_⟩
     . exfalso;rcases hbad with e | e | e
       . cases e
       . cases e.1
       . have:=e.1 hpos;cases this
     clear hpos;go_enter func118,ntmps118;go_wp2_with fail
     refine Lj.o.mono ?_;rintro e w1 ⟨rfl,hw1⟩;have HB1:=H9 (then_ oH.o hw1);clear x0 x1 x2 x3 x4 x5 x6;obtain⟨x0,x1,x2,x3,x4,x5,x6⟩:=HC.o _ hw1;clear hw1 Lj;go_wp2_with fail
     refine(uy.o w1 HB1.o).mono ?_;rintro e w2 ⟨rfl,hw2⟩;have HB2:=H9 (then_ HB1.o hw2);clear hw2 uy x0 x1 x2 x3 x4 x5 x6;go_wp2_with fail
     refine(iR 400 none 0 0 w2).mono ?_;rintro e w3 ⟨rfl,hw⟩;rw[hw];clear hw;go_wp2_with fail
     refine(iR 400 none 0 0 w2).mono ?_;rintro e w3 ⟨rfl,hw⟩;rw[hw];clear hw;go_wp2;go_ret;exact⟨rfl,HB2.o⟩
end
def Tu.inside (s:ay):Bool:=decide (7<=s.size)&&decide (s.data.toList.take 7=Tu.lI.data.toList)
theorem yU (s:ay)(w:World)(hs:s.size<=100000):Calls prog 82 #[.string s,.string ⟨#[47,102,105,108,101,115,47]⟩] w fun e w'=>e=.returned (.bool (Tu.inside s))∧w'=w:=by
 by_cases h7:7<=s.size
 . have h7':(7:Int)<=(s.size:Int):=by omega
   obtain⟨b,hb⟩:∃b,((s.extract 0 7).toList==([47,102,105,108,101,115,47]:av))=b:=⟨_,rfl⟩;have HI:Hid (Tu.inside s=b):=by
    unfold Hid Tu.inside;rw[aI h7,Bool.true_and,<-hb,Tu.ahF];rw[aH,bR,aT];rfl
   rw[HI.o];go_enter func82,ntmps82;go_wp2;go_ret;exact⟨rfl,rfl⟩
 . have h7':¬(7:Int)<=(s.size:Int):=by omega
   have HI:Hid (Tu.inside s=false):=by
    unfold Hid Tu.inside;rw[aJ h7,Bool.false_and]
   rw[HI.o];go_enter func82,ntmps82;go_wp2;go_ret;exact⟨rfl,rfl⟩
theorem BU (s:ay)(w:World)(hs:s.size<=100000):Calls prog 49 #[.string s,.string ⟨#[47,102,105,108,101,115,47]⟩] w fun e w'=>e=.returned (.bool (Tu.inside s))∧w'=w:=by
 have HH:=H9 (yU s w hs);generalize Tu.inside s=b at *;go_enter func49,ntmps49;go_wp2_with fail
 refine HH.o.mono ?_;rintro e w1 ⟨rfl,hw⟩;rw[hw];go_wp2;go_ret;exact⟨rfl,rfl⟩
theorem Sz (s:ay)(w:World)(hs:s.size<=100000):Calls prog 108 #[.string s] w fun e w'=>e=.returned (.bool (Tu.ours s))∧w'=w:=by
 have HH:=H9 (BU s w hs);obtain⟨b,hb⟩:∃b,(s.toList==([47,102,105,108,101,115]:av))=b:=⟨_,rfl⟩;have e1:s=Tu.sZ<->b=true:=by rw[<-hb];exact Tu.Yq s Tu.sZ _ rfl
 have HO:Hid (Tu.ours s=(b||Tu.inside s)):=by
  unfold Hid Tu.ours;rw[show decide (s=Tu.sZ)=b from by rw[aH,bR];exact e1];rfl
 rw[HO.o];clear e1 HO;generalize Tu.inside s=c at *;cases b with
 | true =>
   go_enter func108,ntmps108;go_wp2;go_ret;exact⟨rfl,rfl⟩
 | false =>
   go_enter func108,ntmps108;go_wp2_with fail
   refine HH.o.mono ?_;rintro e w1 ⟨rfl,hw⟩;rw[hw];go_wp2;go_ret;exact⟨by simp,rfl⟩
theorem Oj (s:ay)(w:World)(hs:s.size<=100000)(hi:Tu.inside s=true):Calls prog 123 #[.string s,.string ⟨#[47,102,105,108,101,115,47]⟩] w fun e w'=>e=.returned (.tuple #[.string (s.extract 7 s.size),.bool true])∧w'=w:=by
 have HH:=H9 (yU s w hs);rw[hi] at HH;have h7:7<=s.size:=by
  unfold Tu.inside at hi;rw[dh,bR] at hi;exact hi.1
 have h7':(7:Int)<=(s.size:Int):=by omega
 have HC:Hid (Calls prog 165 #[.string s,.string ⟨#[47,102,105,108,101,115,47]⟩] w fun e w'=>e=.returned (.tuple #[.string (s.extract 7 s.size),.bool true])∧w'=w):=by
  unfold Hid;clear hi;go_enter func165,ntmps165;go_wp2_with fail
  refine HH.o.mono ?_;rintro e w1 ⟨rfl,hw⟩;rw[hw];go_wp2;go_ret2;exact⟨rfl,rfl⟩
 clear HH hi h7 h7';generalize s.extract 7 s.size=x at *;go_enter func123,ntmps123;go_wp2_with fail
 refine HC.o.mono ?_;rintro e w1 ⟨rfl,hw⟩;rw[hw];go_wp2;go_ret2;exact⟨rfl,rfl⟩
theorem SA (s:ay)(w:World)(hs:s.size<=100000)(hi:Tu.inside s=false):Calls prog 123 #[.string s,.string ⟨#[47,102,105,108,101,115,47]⟩] w fun e w'=>e=.returned (.tuple #[.string s,.bool false])∧w'=w:=by
 have HH:=H9 (yU s w hs);rw[hi] at HH;have HC:Hid (Calls prog 165 #[.string s,.string ⟨#[47,102,105,108,101,115,47]⟩] w fun e w'=>e=.returned (.tuple #[.string s,.bool false])∧w'=w):=by
  unfold Hid;clear hi;go_enter func165,ntmps165;go_wp2_with fail
  refine HH.o.mono ?_;rintro e w1 ⟨rfl,hw⟩;rw[hw];go_wp2;go_ret2;exact⟨rfl,rfl⟩
 clear HH hi;go_enter func123,ntmps123;go_wp2_with fail
 refine HC.o.mono ?_;rintro e w1 ⟨rfl,hw⟩;rw[hw];go_wp2;go_ret2;exact⟨rfl,rfl⟩
def Wy:ay:=⟨#[67,111,110,116,101,110,116,45,76,101,110,103,116,104]⟩
def Rp.fault (st:Int)(l:au):Nat:=if Rp.word st=[] then 11 else if 16<=l.length then 8 else if (Fd.vals Wy l).length≠0 then 12 else 0
theorem Ol (w:World)(st:Int)(l:au)(fo bo:ak)(gM gK nb:Nat)(hl:jo w fo gM l.length (gU l))(hN:l.length<=1000000)(hs:∀p∈l,p.1.size<=2000∧p.2.size<=2000):
 Calls prog 144 #[.agg #[.int .i64 st,.slice fo l.length gM,.slice bo nb gK]] w fun e w'=>e=.returned (.int .i64 (Rp.fault st l:Nat))∧aj w w':=by
 have HX:Hid (∀W,jJ w #[.int .i64 st,.slice fo l.length gM,.slice bo nb gK] 88 W->W.cell? ⟨w.heap.size,0,none⟩=some (.int .i64 st)∧W.cell? ⟨w.heap.size,1,none⟩=some (.slice fo l.length gM)∧W.cell? ⟨w.heap.size,2,none⟩=some (.slice bo nb gK)):=fun W h=>⟨h.cell 0,h.cell 1,h.cell 2⟩;have H0:=H9 (jJ.made w #[.int .i64 st,.slice fo l.length gM,.slice bo nb gK] 88);have HA:=H9 (ug l Wy fo gM l.length _ (hl.stay H0.o.below) rfl hN hs (by decide));have Zt:=H9 (fun W=>ED st W);clear hl hs;obtain⟨x0,x1,x2⟩:=HX.o _ H0.o;go_enter func144,ntmps144;go_wp2_with fail
 refine(Zt.o _).mono ?_;rintro e w1 ⟨rfl,hw1⟩;subst hw1;by_cases hwd:Rp.word st=[]
 . have HF:Hid (Rp.fault st l=11):=by unfold Hid Rp.fault;rw[if_pos hwd]
   have tw:((⟨(Rp.word st).toArray⟩:ay).toList==([]:av))=true:=by rw[Lib.toList_data,hwd];rfl
   generalize (⟨(Rp.word st).toArray⟩:ay)=wd at *;clear hwd;go_wp2;go_ret;exact⟨by rw[HF.o];rfl,H0.o.below⟩
 . have tw:((⟨(Rp.word st).toArray⟩:ay).toList==([]:av))=false:=by rw[Lib.toList_data,aS];simpa using hwd
   have HT:Hid (Rp.fault st l=if 16<=l.length then 8 else if (Fd.vals Wy l).length≠0 then 12 else 0):=by unfold Hid Rp.fault;rw[if_neg hwd]
   generalize (⟨(Rp.word st).toArray⟩:ay)=wd at *;clear hwd;by_cases h16:16<=l.length
   . have HF:Hid (Rp.fault st l=8):=by unfold Hid;rw[HT.o,if_pos h16]
     have t16:decide ((l.length:Int)≥16)=true:=by rw[bR];omega
     clear HT;go_wp2;go_ret;exact⟨by rw[HF.o];rfl,H0.o.below⟩
   . have t16:decide ((l.length:Int)≥16)=false:=by rw[bQ];omega
     rw[if_neg h16] at HT;unfold Wy at HA;go_wp2_with fail
     refine HA.o.mono ?_;rintro e w2 ⟨a2,c2,rfl,_,hb2⟩;have BP:=H9 (H0.o.stay hb2);clear hb2 x0 x1 x2 HA;rw[show(⟨#[67,111,110,116,101,110,116,45,76,101,110,103,116,104]⟩:ay)=Wy from rfl];generalize (Fd.vals Wy l).length=nv at *;by_cases hnv:0<nv
     . have HF:Hid (Rp.fault st l=12):=by unfold Hid;rw[HT.o,if_pos (by omega)]
       have tn:decide ((nv:Int) > 0)=true:=by rw[bR];omega
       clear HT;go_wp2;go_ret;exact⟨by rw[HF.o];rfl,BP.o.below⟩
     . have HF:Hid (Rp.fault st l=0):=by unfold Hid;rw[HT.o,if_neg (by omega)]
       have tn:decide ((nv:Int) > 0)=false:=by rw[bQ];omega
       clear HT;go_wp2;go_ret;exact⟨by rw[HF.o];rfl,BP.o.below⟩
inductive lU (S:Nat->Prop)(w:World)(g:Nat)(r:Sr.Sh×Tu.zk):Ending->World->Prop
 | ret {ao:ak} {cap n:Nat} {w':World} (hn:r.2.2.length=n) (hO:gV w' w.heap.size 111 2 ao cap n (gU r.2.2)) (hat:iI w' (gN S w) g r.1) (hT:Turns S w w'):lU S w g r (.returned (.agg #[.int .i64 (r.2.1:Int),.slice ao n cap,.slice none 0 0])) w'
 | gave {ao:ak} {cap n:Nat} {w':World} (hn:r.2.2.length=n) (hO:gV w' w.heap.size 111 2 ao cap n (gU r.2.2)) (hat:iI w' (gN S w) g r.1) (hT:Turns S w w'):lU S w g r (iT (r.2.1:Int) ao n cap) w'
theorem lU.of {S:Nat->Prop}{w:World}{g:Nat}{r:Sr.Sh×Tu.zk}{e:Ending}{w':World}(h:zR iI S w g r e w'):lU S w g r e w':=by
 obtain⟨⟨ao,cap,n,rfl,hn,hO⟩,hat,hT⟩:=h;exact .ret hn hO hat hT
structure wS (w0 w:World)(S:Nat->Prop):Prop where
 pow:nA w0
 vN:aj w0 w
 far:∀k,S k->w0.heap.size<=k
section
variable {S S':Nat->Prop} {w0 w W W':World} {g:Nat} {bs:List Obj} {s:Sr.Sh}
theorem jv.new {O:ObP}(h:jv O S w g bs s S' W):∀k,S' k->gN S w k:=fun k e=>by
 rcases h.ap k e with h2 | h2
 . exact Or.inl h2.1
 . exact Or.inr (by omega)
theorem jv.pow {O:ObP}(h:jv O S w g bs s S' W)(p:wS w0 w S):nA W:=p.pow.stay (p.vN.trans (h.tu.below (fun k e=>p.far k e.1) p.vN.size))
theorem jv.fell (h:jv iI S w g bs s S' W){rep:Tu.zk}{e:Ending}(hg:qI W rep e W'):Hid (lU S w g (s,rep) e W')∧∃(ao:ak) (cap n:Nat),e=iT (rep.1:Int) ao n cap:=by
 obtain⟨ao,cap,n,rfl,hn,hO,hB⟩:=hg;have h1:=h.stay iK hB;exact⟨.gave hn (hO.mono (dG (dJ _ _) h.sz)) (h1.sh.mono (fun k _ e=>h1.new k e)) (h1.tu.mono (fun k e=>e.1)),ao,cap,n,rfl⟩
theorem jv.Mc (h:jv iI S w g bs s S' W){r:Sr.Sh×Tu.zk}{ao:ak}{cap n:Nat}(hn:r.2.2.length=n)(hO:gV W' W.heap.size 111 2 ao cap n (gU r.2.2))(hat:iI W' (gN S' W) g r.1)(hT:Turns S' W W'):lU S w g r (iT (r.2.1:Int) ao n cap) W':=by
 have h1:=h.did hat hT;exact .gave hn (hO.mono (dG (dJ _ _) h.sz)) (h1.sh.mono (fun k _ e=>h1.new k e)) (h1.tu.mono (fun k e=>e.1))
end
section
variable {g:Nat} {m t:ay} {mi ln:Int} {l:au} {fo:ak} {gM nf:Nat} {bo:ak} {gK nb:Nat} {w:World} {S:Nat->Prop} {s:Sr.Sh}
theorem QL (h:iI w S g s)(ob:Obj):jv iI S w g [.cells #[.pointer (some ⟨g,0,none⟩),.string m,.string t,.int .i64 mi,.slice fo nf gM,.int .i64 ln,.slice bo nb gK] 123 (0,0),ob] s (fun k=>S k∧k<w.heap.size) ((w.alloc (.cells #[.pointer (some ⟨g,0,none⟩),.string m,.string t,.int .i64 mi,.slice fo nf gM,.int .i64 ln,.slice bo nb gK] 123)).alloc ob):=by
 have hz:(w.alloc (.cells #[.pointer (some ⟨g,0,none⟩),.string m,.string t,.int .i64 mi,.slice fo nf gM,.int .i64 ln,.slice bo nb gK] 123)).heap.size=w.heap.size+1:=fZ ..;exact((jv.start iK h).box iK rfl (fun k e=>e.2) _).box iK hz (fun k e=>by rw[hz];have:=e.2;omega) _
theorem jv.ex {bs:List Obj}{S':Nat->Prop}{s':Sr.Sh}{W:World}(h:jv iI S w g (.cells #[.pointer (some ⟨g,0,none⟩),.string m,.string t,.int .i64 mi,.slice fo nf gM,.int .i64 ln,.slice bo nb gK] 123 (0,0)::bs) s' S' W):W.cell? ⟨w.heap.size,0,none⟩=some (.pointer (some ⟨g,0,none⟩))∧W.cell? ⟨w.heap.size,1,none⟩=some (.string m)∧W.cell? ⟨w.heap.size,2,none⟩=some (.string t)∧W.cell? ⟨w.heap.size,3,none⟩=some (.int .i64 mi)∧W.cell? ⟨w.heap.size,4,none⟩=some (.slice fo nf gM)∧W.cell? ⟨w.heap.size,5,none⟩=some (.int .i64 ln)∧W.cell? ⟨w.heap.size,6,none⟩=some (.slice bo nb gK):=by
 have r:=h.row 0 rfl;exact⟨fK W _ 0 _ _ _ r,fK W _ 1 _ _ _ r,fK W _ 2 _ _ _ r,fK W _ 3 _ _ _ r,fK W _ 4 _ _ _ r,fK W _ 5 _ _ _ r,fK W _ 6 _ _ _ r⟩
theorem Cg (h:iI w S g s)(ok:Sr.Ok s)(hP:nA w)(ht:t.size<=100000):
 (Tu.AJ s.h t=none->Calls prog 89 #[.agg #[.pointer (some ⟨g,0,none⟩),.string m,.string t,.int .i64 mi,.slice fo nf gM,.int .i64 ln,.slice bo nb gK]] w fun e w'=>qI w (Tu.said 404 []) e w') ∧
 (∀u,Tu.AJ s.h t=some u->Calls prog 89 #[.agg #[.pointer (some ⟨g,0,none⟩),.string m,.string t,.int .i64 mi,.slice fo nf gM,.int .i64 ln,.slice bo nb gK]] w fun e w'=>∃(ao:ak) (cap:Nat),e=.returned (.agg #[.int .i64 u.id,.int .i64 u.size,.string u.note,.slice ao u.bytes.length cap,.int .i64 u.sent])∧aj w w'):=by
 have T2:jv iI S w g [.cells #[.pointer (some ⟨g,0,none⟩),.string m,.string t,.int .i64 mi,.slice fo nf gM,.int .i64 ln,.slice bo nb gK] 123 (0,0),.cells #[.int .i64 0,.int .i64 0,.string ⟨#[]⟩,.slice none 0 0,.int .i64 0] 101] s (fun k=>S k∧k<w.heap.size) ((w.alloc (.cells #[.pointer (some ⟨g,0,none⟩),.string m,.string t,.int .i64 mi,.slice fo nf gM,.int .i64 ln,.slice bo nb gK] 123)).alloc (.cells #[.int .i64 0,.int .i64 0,.string ⟨#[]⟩,.slice none 0 0,.int .i64 0] 101)):=QL h _;have HB2:Hid (aj w ((w.alloc (.cells #[.pointer (some ⟨g,0,none⟩),.string m,.string t,.int .i64 mi,.slice fo nf gM,.int .i64 ln,.slice bo nb gK] 123)).alloc (.cells #[.int .i64 0,.int .i64 0,.string ⟨#[]⟩,.slice none 0 0,.int .i64 0] 101))):=then_ ((fJ _ w).alloc (aM _) _) ((fJ _ _).alloc (aM _) _);have HC:Hid (∀W,jv iI S w g [.cells #[.pointer (some ⟨g,0,none⟩),.string m,.string t,.int .i64 mi,.slice fo nf gM,.int .i64 ln,.slice bo nb gK] 123 (0,0),.cells #[.int .i64 0,.int .i64 0,.string ⟨#[]⟩,.slice none 0 0,.int .i64 0] 101] s (fun k=>S k∧k<w.heap.size) W->W.cell? ⟨w.heap.size,0,none⟩=some (.pointer (some ⟨g,0,none⟩))∧W.cell? ⟨w.heap.size,1,none⟩=some (.string m)∧W.cell? ⟨w.heap.size,2,none⟩=some (.string t)∧W.cell? ⟨w.heap.size,3,none⟩=some (.int .i64 mi)∧W.cell? ⟨w.heap.size,4,none⟩=some (.slice fo nf gM)∧W.cell? ⟨w.heap.size,5,none⟩=some (.int .i64 ln)∧W.cell? ⟨w.heap.size,6,none⟩=some (.slice bo nb gK)):=fun W hW=>hW.ex;obtain⟨x0,x1,x2,x3,x4,x5,x6⟩:=HC.o _ T2;have H2:=H9 T2;clear T2;obtain⟨gs,gl,lo,lca,P,hI⟩:=h;have HG:Hid (∀W,aj w W->W.cell? ⟨g,0,none⟩=some (.pointer (some ⟨gs,0,none⟩))∧iV W P gs s.h):=fun W hW=>⟨fK W _ 0 _ _ _ (hI.stay hW).row,(hI.stay hW).wG⟩;have qy:=H9 ok;have IE:=H9 hP;clear hI ok hP;cases hin:Tu.inside t with
 | false =>
   have HCu:Hid (∀W,Calls prog 123 #[.string t,.string ⟨#[47,102,105,108,101,115,47]⟩] W fun e w'=>e=.returned (.tuple #[.string t,.bool false])∧w'=W):=fun W=>SA t W ht hin;have sH:Hid (∀W,Calls prog 124 #[.string t] W fun e w'=>e=.returned (.tuple #[.int .i64 (Ch.number 10 9 t.data.toList).1,.bool (Ch.number 10 9 t.data.toList).2])∧w'=W):=fun W=>oz t W (by unfold maxLen;omega);have hnone:Tu.AJ s.h t=none:=Tu.QC (fun x=>by
    unfold Tu.inside at hin;rw[aI (by omega:7<=t.size),Bool.true_and,bQ] at hin;exact hin x.2.1) s.h
   refine⟨fun _=>?_,fun u hu=>by rw[hnone] at hu;cases hu⟩;clear hnone hin;generalize Ch.number 10 9 t.data.toList=rn at *;obtain⟨n,okn⟩:=rn;go_enter func89,ntmps89;go_wp2_with fail
   refine(HCu.o _).mono ?_;rintro e w1 ⟨rfl,hw⟩;rw[hw];clear hw;go_wp2_with fail
   refine(sH.o _).mono ?_;rintro e w1 ⟨rfl,hw⟩;rw[hw];clear hw;go_wp2_with fail
   refine(iW 404 404 rfl _).mono ?_;rintro e w9 hG;obtain⟨Dc,jL,iC,n9,he⟩:=hG.ends HB2.o;unfold iT at he;subst he;clear hG;go_wp2;exact⟨rfl,Dc.o⟩
 | true =>
   have HCu:Hid (∀W,Calls prog 123 #[.string t,.string ⟨#[47,102,105,108,101,115,47]⟩] W fun e w'=>e=.returned (.tuple #[.string (t.extract 7 t.size),.bool true])∧w'=W):=fun W=>Oj t W ht hin;have sH:Hid (∀W,Calls prog 124 #[.string (t.extract 7 t.size)] W fun e w'=>e=.returned (.tuple #[.int .i64 (Ch.number 10 9 (t.data.toList.drop 7)).1,.bool (Ch.number 10 9 (t.data.toList.drop 7)).2])∧w'=W):=fun W=>by
    have:=oz (t.extract 7 t.size) W (by rw[ByteArray.size_extract];unfold maxLen;omega);rw[Tu.aaJ] at this;exact this
   have hin2:t.data.toList.take 7=Tu.lI.data.toList:=by
    unfold Tu.inside at hin;rw[dh,bR,bR] at hin;exact hin.2
   have hsm:(Ch.number 10 9 (t.data.toList.drop 7)).2=true->0<=(Ch.number 10 9 (t.data.toList.drop 7)).1∧(Ch.number 10 9 (t.data.toList.drop 7)).1<1000000000∧7<t.size:=fun e=>⟨(Ch.qK e).1,(Ch.qK e).2,by
    rcases aU 7 t.size with h | h
    . exact h
    . exfalso;rw[aK (by rw[aO];exact h)] at e;revert e;decide⟩
   have hno:((Ch.number 10 9 (t.data.toList.drop 7)).2=false∨Ch.jH 8 (Ch.number 10 9 (t.data.toList.drop 7)).1.toNat≠t.data.toList.drop 7)->Tu.AJ s.h t=none:=fun e=>Tu.QC (fun x=>e.elim (fun e=>by have h3:=x.2.2.1;rw[e] at h3;cases h3) (fun e=>e x.2.2.2)) s.h;have hye:=fun(h7:7<t.size) (e:(Ch.number 10 9 (t.data.toList.drop 7)).2=true) (e2:Ch.jH 8 (Ch.number 10 9 (t.data.toList.drop 7)).1.toNat=t.data.toList.drop 7)=>Tu.Wt (t:=t) ⟨h7,hin2,e,e2⟩ s.h;clear hin hin2;generalize Ch.number 10 9 (t.data.toList.drop 7)=rn at *;obtain⟨n,okn⟩:=rn;simp only at hsm hno hye;cases okn with
   | false =>
     have hnone:=hno (Or.inl rfl);refine⟨fun _=>?_,fun u hu=>by rw[hnone] at hu;cases hu⟩;clear hno hye hsm hnone;generalize t.extract 7 t.size=nm at *;go_enter func89,ntmps89;go_wp2_with fail
     refine(HCu.o _).mono ?_;rintro e w1 ⟨rfl,hw⟩;rw[hw];clear hw;go_wp2_with fail
     refine(sH.o _).mono ?_;rintro e w1 ⟨rfl,hw⟩;rw[hw];clear hw;go_wp2_with fail
     refine(iW 404 404 rfl _).mono ?_;rintro e w9 hG;obtain⟨Dc,jL,iC,n9,he⟩:=hG.ends HB2.o;unfold iT at he;subst he;clear hG;go_wp2;exact⟨rfl,Dc.o⟩
   | true =>
     obtain⟨hn0,hn1,h7⟩:=hsm rfl;have HIt:Hid (∀W,aj w W->Calls prog 122 #[.int .i64 n] W fun e w'=>e=.returned (.string (Tu.dec n.toNat))∧aj W w'):=fun W hW=>by
      have:=uf n.toNat (by omega) W (IE.o.stay hW);rw[show((n.toNat:Nat):Int)=n from by omega] at this;exact this
     have HI2:=H9 (HIt.o _ HB2.o);obtain⟨bs,hbs⟩:∃b,((Tu.dec n.toNat).toList==(t.extract 7 t.size).toList)=b:=⟨_,rfl⟩;have eS:Ch.jH 8 n.toNat=t.data.toList.drop 7<->bs=true:=by
      rw[<-hbs,Lib.toList_data,Lib.toList_data,Tu.aaJ,aT];rfl
     generalize Tu.dec n.toNat=nd at *;cases bs with
     | false =>
       have hnone:=hno (Or.inr (fun e=>by have:=eS.1 e;cases this));refine⟨fun _=>?_,fun u hu=>by rw[hnone] at hu;cases hu⟩;clear hno hye hsm hnone eS;generalize t.extract 7 t.size=nm at *;go_enter func89,ntmps89;go_wp2_with fail
       refine(HCu.o _).mono ?_;rintro e w1 ⟨rfl,hw⟩;rw[hw];clear hw;go_wp2_with fail
       refine(sH.o _).mono ?_;rintro e w1 ⟨rfl,hw⟩;rw[hw];clear hw;go_wp2_with fail
       refine HI2.o.mono ?_;rintro e w3 ⟨rfl,hw3⟩;have HB3:=H9 (then_ HB2.o hw3);clear hw3 HI2;go_wp2_with fail
       refine(iW 404 404 rfl _).mono ?_;rintro e w9 hG;obtain⟨Dc,jL,iC,n9,he⟩:=hG.ends HB3.o;unfold iT at he;subst he;clear hG;go_wp2;exact⟨rfl,Dc.o⟩
     | true =>
       have hu:=hye h7 rfl (eS.2 rfl);clear hno hye hsm eS;generalize t.extract 7 t.size=nm at *;cases hp:Sp.place s.h.l n with
       | none =>
         rw[hp] at hu;simp only at hu;have HGt:Hid (∀W,aj w W->Calls prog 125 #[.pointer (some ⟨gs,0,none⟩),.int .i64 n] W fun e w'=>e=.returned (.tuple #[.agg #[.int .i64 0,.int .i64 0,.string ⟨#[]⟩,.slice none 0 0,.int .i64 0],.bool false])∧aj W w'):=fun W hW=>Tn s.h P gs n W (HG.o W hW).2 qy.o.h hp;refine⟨fun _=>?_,fun u hu2=>by rw[hu] at hu2;cases hu2⟩;clear hu hp;go_enter func89,ntmps89;go_wp2_with fail
         refine(HCu.o _).mono ?_;rintro e w1 ⟨rfl,hw⟩;rw[hw];clear hw;go_wp2_with fail
         refine(sH.o _).mono ?_;rintro e w1 ⟨rfl,hw⟩;rw[hw];clear hw;go_wp2_with fail
         refine HI2.o.mono ?_;rintro e w3 ⟨rfl,hw3⟩;have HB3:=H9 (then_ HB2.o hw3);have H3:=H9 (H2.o.stay iK hw3);clear hw3 HI2 x0 x1 x2 x3 x4 x5 x6;obtain⟨x0,x1,x2,x3,x4,x5,x6⟩:=HC.o _ H3.o;have g0:=(HG.o _ HB3.o).1;go_wp2_with fail
         refine(iR 404 none 0 0 _).mono ?_;rintro e w1 ⟨rfl,hw⟩;rw[hw];clear hw;go_wp2_with fail
         refine(HGt.o _ HB3.o).mono ?_;rintro e w4 ⟨rfl,hw4⟩;have jK:=H9 (then_ (then_ HB3.o hw4) ((fJ _ w4).alloc (aM _) (.cells #[.int .i64 0,.int .i64 0,.string ⟨#[]⟩,.slice none 0 0,.int .i64 0] 101)));clear hw4 HGt x0 x1 x2 x3 x4 x5 x6 g0;go_wp2_with fail
         refine(iW 404 404 rfl _).mono ?_;rintro e w9 hG;obtain⟨Dc,jL,iC,n9,he⟩:=hG.ends jK.o;unfold iT at he;subst he;clear hG;go_wp2;exact⟨rfl,Dc.o⟩
       | some i =>
         rw[hp] at hu;simp only at hu;have hi:=Sp.tV hp;rw[dD hi] at hu;have HGt:Hid (∀W,aj w W->Calls prog 125 #[.pointer (some ⟨gs,0,none⟩),.int .i64 n] W fun e w'=>∃ao cap,e=.returned (.tuple #[.agg #[.int .i64 s.h.l[i].id,.int .i64 s.h.l[i].size,.string s.h.l[i].note,.slice ao s.h.l[i].bytes.length cap,.int .i64 s.h.l[i].sent],.bool true])∧iH w' ao cap s.h.l[i].bytes∧aj W w'):=fun W hW=>Tp s.h P gs n i W (HG.o W hW).2 qy.o.h hp hi;generalize s.h.l[i]=u0 at *;refine⟨fun hu2=>(by rw[hu] at hu2;cases hu2),fun u hu2=>?_⟩;rw[hu] at hu2;injection hu2 with hu2;subst hu2;clear hu hp hi;generalize u0.bytes.length=ub at *;go_enter func89,ntmps89;go_wp2_with fail
         refine(HCu.o _).mono ?_;rintro e w1 ⟨rfl,hw⟩;rw[hw];clear hw;go_wp2_with fail
         refine(sH.o _).mono ?_;rintro e w1 ⟨rfl,hw⟩;rw[hw];clear hw;go_wp2_with fail
         refine HI2.o.mono ?_;rintro e w3 ⟨rfl,hw3⟩;have HB3:=H9 (then_ HB2.o hw3);have H3:=H9 (H2.o.stay iK hw3);clear hw3 HI2 x0 x1 x2 x3 x4 x5 x6;obtain⟨x0,x1,x2,x3,x4,x5,x6⟩:=HC.o _ H3.o;have g0:=(HG.o _ HB3.o).1;go_wp2_with fail
         refine(iR 404 none 0 0 _).mono ?_;rintro e w1 ⟨rfl,hw⟩;rw[hw];clear hw;go_wp2_with fail
         refine(HGt.o _ HB3.o).mono ?_;rintro e w4 ⟨ao,cap,rfl,_,hw4⟩;have hb5:=(fJ _ w4).alloc (aM _) (.cells #[.int .i64 u0.id,.int .i64 u0.size,.string u0.note,.slice ao ub cap,.int .i64 u0.sent] 101);have qY:=H9 (then_ (then_ HB3.o hw4) hb5);have sj:=((H3.o.stay iK hw4).stay iK hb5).row 1 rfl;have SE:=H9 sj;have v0:(w4.alloc (.cells #[.int .i64 u0.id,.int .i64 u0.size,.string u0.note,.slice ao ub cap,.int .i64 u0.sent] 101)).cell? ⟨w4.heap.size,0,none⟩=some (.int .i64 u0.id):=World.cell?_alloc_mark w4 _ _ _ 0;have v1:(w4.alloc (.cells #[.int .i64 u0.id,.int .i64 u0.size,.string u0.note,.slice ao ub cap,.int .i64 u0.sent] 101)).cell? ⟨w4.heap.size,1,none⟩=some (.int .i64 u0.size):=World.cell?_alloc_mark w4 _ _ _ 1;have v2:(w4.alloc (.cells #[.int .i64 u0.id,.int .i64 u0.size,.string u0.note,.slice ao ub cap,.int .i64 u0.sent] 101)).cell? ⟨w4.heap.size,2,none⟩=some (.string u0.note):=World.cell?_alloc_mark w4 _ _ _ 2;have v3:(w4.alloc (.cells #[.int .i64 u0.id,.int .i64 u0.size,.string u0.note,.slice ao ub cap,.int .i64 u0.sent] 101)).cell? ⟨w4.heap.size,3,none⟩=some (.slice ao ub cap):=World.cell?_alloc_mark w4 _ _ _ 3;have v4:(w4.alloc (.cells #[.int .i64 u0.id,.int .i64 u0.size,.string u0.note,.slice ao ub cap,.int .i64 u0.sent] 101)).cell? ⟨w4.heap.size,4,none⟩=some (.int .i64 u0.sent):=World.cell?_alloc_mark w4 _ _ _ 4;have z0:=fK _ _ 0 _ _ _ sj;have z1:=fK _ _ 1 _ _ _ sj;have z2:=fK _ _ 2 _ _ _ sj;have z3:=fK _ _ 3 _ _ _ sj;have z4:=fK _ _ 4 _ _ _ sj
         have y0:=fM _ _ 0 _ _ sj;have y1:=fM _ _ 1 _ _ sj;have y2:=fM _ _ 2 _ _ sj;have y3:=fM _ _ 3 _ _ sj;have y4:=fM _ _ 4 _ _ sj
         simp at z0 z1 z2 z3 z4;clear hw4 HGt x0 x1 x2 x3 x4 x5 x6 g0 hb5 sj;go_upto_region 5 with fail
         generalize (w4.alloc (.cells #[.int .i64 u0.id,.int .i64 u0.size,.string u0.note,.slice ao ub cap,.int .i64 u0.sent] 101))=w5 at *;generalize w4.heap.size=k4 at *;go_wp2_with fail
         refine(iR 404 none 0 0 _).mono ?_;rintro e w1 ⟨rfl,hw⟩;rw[hw];clear hw;go_wp2;have hb6:=((((qY.o.setCell (p:=⟨w.heap.size+1,0,none⟩) (dJ _ _) (.int .i64 u0.id)).setCell (p:=⟨w.heap.size+1,1,none⟩) (dJ _ _) (.int .i64 u0.size)).setCell (p:=⟨w.heap.size+1,2,none⟩) (dJ _ _) (.string u0.note)).setCell (p:=⟨w.heap.size+1,3,none⟩) (dJ _ _) (.slice ao ub cap)).setCell (p:=⟨w.heap.size+1,4,none⟩) (dJ _ _) (.int .i64 u0.sent);have EO:=fO _ _ 4 _ _ (.int .i64 u0.sent) (fO _ _ 3 _ _ (.slice ao ub cap) (fO _ _ 2 _ _ (.string u0.note) (fO _ _ 1 _ _ (.int .i64 u0.size) (fO _ _ 0 _ _ (.int .i64 u0.id) SE.o))));generalize (((((w5.setCell ⟨w.heap.size+1,0,none⟩ (Value.int .i64 u0.id)).setCell ⟨w.heap.size+1,1,none⟩ (Value.int .i64 u0.size)).setCell ⟨w.heap.size+1,2,none⟩ (Value.string u0.note)).setCell ⟨w.heap.size+1,3,none⟩ (Value.slice ao ub cap)).setCell ⟨w.heap.size+1,4,none⟩ (Value.int .i64 u0.sent))=w6 at hb6 EO ⊢;have r0:w6.cell? ⟨w.heap.size+1,0,none⟩=some (.int .i64 u0.id):=fK w6 _ 0 _ _ _ EO;have r1:w6.cell? ⟨w.heap.size+1,1,none⟩=some (.int .i64 u0.size):=fK w6 _ 1 _ _ _ EO;have r2:w6.cell? ⟨w.heap.size+1,2,none⟩=some (.string u0.note):=fK w6 _ 2 _ _ _ EO;have r3:w6.cell? ⟨w.heap.size+1,3,none⟩=some (.slice ao ub cap):=fK w6 _ 3 _ _ _ EO;have r4:w6.cell? ⟨w.heap.size+1,4,none⟩=some (.int .i64 u0.sent):=fK w6 _ 4 _ _ _ EO;exact gy (v:=.agg #[.int .i64 u0.id,.int .i64 u0.size,.string u0.note,.slice ao ub cap,.int .i64 u0.sent]) (by simp[results,results89,go_sem,r0,r1,r2,r3,r4]) rfl ⟨ao,cap,rfl,hb6⟩
end
section
variable {g:Nat} {m t:ay} {mi ln:Int} {l:au} {fo:ak} {gM nf:Nat} {bo:ak} {gK nb:Nat} {w:World}
theorem Mr (h:pX w l fo gM nf)(hx:(Tu.one (Tu.vals Tu.MV l)).2=9):
 Calls prog 126 #[.agg #[.pointer (some ⟨g,0,none⟩),.string m,.string t,.int .i64 mi,.slice fo nf gM,.int .i64 ln,.slice bo nb gK]] w fun e w'=>qI w (Tu.said 400 []) e w':=by
 have jq:=(fJ _ w).alloc (aM _) (.cells #[.pointer (some ⟨g,0,none⟩),.string m,.string t,.int .i64 mi,.slice fo nf gM,.int .i64 ln,.slice bo nb gK] 123);have oH:=H9 jq;obtain⟨x0,x1,x2,x3,x4,x5,x6⟩:=uT (g:=g) (m:=m) (t:=t) (mi:=mi) (ln:=ln) (fo:=fo) (gM:=gM) (nf:=nf) (bo:=bo) (gK:=gK) (nb:=nb) (w:=w) (fJ _ _);have HN:=H9 (rV (g:=g) (m:=m) (t:=t) (mi:=mi) (ln:=ln) (bo:=bo) (gK:=gK) (nb:=nb) Tu.fCT (by decide) (h.stay jq) (v:=(Tu.one (Tu.vals Tu.MV l)).1) (by rw[Tu.Et,<-hx]));unfold Tu.fCT at HN;clear h jq hx;go_enter func126,ntmps126;go_wp2_with fail
 refine HN.o.mono ?_;rintro e w2 hG;obtain⟨HG,ao,cap,n,he⟩:=hG.ends oH.o;unfold iT at he;subst he;clear hG;go_wp2;exact⟨rfl,HG.o⟩
theorem O5 (h:pX w l fo gM nf)(hx:(Tu.one (Tu.vals Tu.MV l)).2≠9):
 (Tu.Dy (Tu.one (Tu.vals Tu.MV l)).1=false->Calls prog 126 #[.agg #[.pointer (some ⟨g,0,none⟩),.string m,.string t,.int .i64 mi,.slice fo nf gM,.int .i64 ln,.slice bo nb gK]] w fun e w'=>qI w (Tu.said 415 []) e w') ∧
 (Tu.Dy (Tu.one (Tu.vals Tu.MV l)).1=true->Calls prog 126 #[.agg #[.pointer (some ⟨g,0,none⟩),.string m,.string t,.int .i64 mi,.slice fo nf gM,.int .i64 ln,.slice bo nb gK]] w fun e w'=>e=.returned (.tuple #[])∧aj w w'):=by
 have jq:=(fJ _ w).alloc (aM _) (.cells #[.pointer (some ⟨g,0,none⟩),.string m,.string t,.int .i64 mi,.slice fo nf gM,.int .i64 ln,.slice bo nb gK] 123);have oH:=H9 jq;obtain⟨x0,x1,x2,x3,x4,x5,x6⟩:=uT (g:=g) (m:=m) (t:=t) (mi:=mi) (ln:=ln) (fo:=fo) (gM:=gM) (nf:=nf) (bo:=bo) (gK:=gK) (nb:=nb) (w:=w) (fJ _ _);have hz:=h.val Tu.MV;generalize hv:Tu.one (Tu.vals Tu.MV l)=r at *;obtain⟨v,c⟩:=r;simp only at hz hx;have HT:=H9 (oP (g:=g) (m:=m) (t:=t) (mi:=mi) (ln:=ln) (bo:=bo) (gK:=gK) (nb:=nb) Tu.fCT (by decide) (h.stay jq) (by rw[Tu.Et];exact hv) hx);unfold Tu.fCT at HT;have HP:Hid (∀W,Calls prog 168 #[.string ⟨v.toArray⟩] W fun e w'=>uU W (Pm.ku v) e w'):=fun W=>by
  have:=yT ⟨v.toArray⟩ W (by show v.toArray.size<=_;rw[bM];omega);rw[show(⟨v.toArray⟩:ay).data.toList=v from by simp] at this;exact this
 have mh:Hid (∀word ps code,Wx (Pm.ku v) word ps code->(Tu.Dy v=(word.toList==([97,112,112,108,105,99,97,116,105,111,110,47,111,102,102,115,101,116,43,111,99,116,101,116,45,115,116,114,101,97,109]:av)))):=fun word ps code hM=>by
  rw[aH,aT,Lib.toList_data];unfold Tu.Dy;cases hm:Pm.ku v with
  | inl c =>
    rw[hm] at hM;obtain⟨h1,h2,h3⟩:=hM;subst h2;constructor
    . intro e;cases e
    . intro e;simp at e
  | inr x =>
    rw[hm] at hM;obtain⟨h1,h2,h3⟩:=hM;simp only[bR];rw[h2];rfl
 clear h jq hv hz;generalize decide (c=0)=cb at *;generalize (⟨v.toArray⟩:ay)=vb at *;generalize Tu.Dy v=off at *;generalize Pm.ku v=md at *;refine⟨fun ho=>?_,fun ho=>?_⟩
 . subst ho;go_enter func126,ntmps126;go_wp2_with fail
   refine HT.o.mono ?_;rintro e w1 ⟨rfl,hw1⟩;have HB1:=H9 (then_ oH.o hw1);clear hw1 HT oH x0 x1 x2 x3 x4 x5 x6;go_wp2_with fail
   refine(HP.o w1).mono ?_;rintro e w2 ⟨word,ps,ao,cap,code,rfl,hM,_,hw2⟩;have ho:=(mh.o _ _ _ hM).symm;have HB2:=H9 (then_ (then_ HB1.o hw2) ((fJ _ w2).alloc (aM _) (.cells #[.string word,.slice ao ps.length cap] 172)));clear hM hw2 HP mh HB1;generalize ps.length=np at *;go_wp2_with fail
   refine(iW 415 415 rfl _).mono ?_;rintro e w9 hG;obtain⟨HG,jL,iC,n9,he⟩:=hG.ends HB2.o;unfold iT at he;subst he;clear hG;go_wp2;exact⟨rfl,HG.o⟩
 . subst ho;go_enter func126,ntmps126;go_wp2_with fail
   refine HT.o.mono ?_;rintro e w1 ⟨rfl,hw1⟩;have HB1:=H9 (then_ oH.o hw1);clear hw1 HT oH x0 x1 x2 x3 x4 x5 x6;go_wp2_with fail
   refine(HP.o w1).mono ?_;rintro e w2 ⟨word,ps,ao,cap,code,rfl,hM,_,hw2⟩;have ho:=(mh.o _ _ _ hM).symm;have HB2:=H9 (then_ (then_ HB1.o hw2) ((fJ _ w2).alloc (aM _) (.cells #[.string word,.slice ao ps.length cap] 172)));clear hM hw2 HP mh HB1;generalize ps.length=np at *;go_wp2_with fail
   refine(iR 415 none 0 0 _).mono ?_;rintro e w9 ⟨rfl,hw⟩;rw[hw];clear hw;go_wp2;go_end0
   exact⟨rfl,HB2.o⟩
theorem vg (id sz sent x en:Int)(note:ay)(uo:ak)(un ji:Nat)(w:World)(hs0:-1<=sz):
 (0<=sz->x≠sz->Calls prog 128 #[.agg #[.int .i64 id,.int .i64 sz,.string note,.slice uo un ji,.int .i64 sent],.int .i64 x,.int .i64 en] w fun e w'=>qI w (Tu.said 400 []) e w') ∧
 (sz<0->(2000<x∨x<en)->Calls prog 128 #[.agg #[.int .i64 id,.int .i64 sz,.string note,.slice uo un ji,.int .i64 sent],.int .i64 x,.int .i64 en] w fun e w'=>qI w (Tu.said 413 []) e w') ∧
 ((0<=sz∧x=sz)∨(sz<0∧¬(2000<x∨x<en))->Calls prog 128 #[.agg #[.int .i64 id,.int .i64 sz,.string note,.slice uo un ji,.int .i64 sent],.int .i64 x,.int .i64 en] w fun e w'=>e=.returned (.tuple #[])∧aj w w'):=by
 have jq:=(fJ _ w).alloc (aM _) (.cells #[.int .i64 id,.int .i64 sz,.string note,.slice uo un ji,.int .i64 sent] 101);have oH:=H9 jq;have c1:(w.alloc (.cells #[.int .i64 id,.int .i64 sz,.string note,.slice uo un ji,.int .i64 sent] 101)).cell? ⟨w.heap.size,1,none⟩=some (.int .i64 sz):=World.cell?_alloc_mark w _ _ _ 1;clear jq;refine⟨fun h0 hne=>?_,fun h0 hbad=>?_,fun hok=>?_⟩
 . have t1:(sz != -1)=true:=by rw[cZ];omega
   have t2:(x==sz)=false:=by rw[aS];exact hne
   clear hne h0 hs0;go_enter func128,ntmps128;go_wp2_with fail
   refine(iW 400 400 rfl _).mono ?_;rintro e w9 hG;obtain⟨HG,jL,iC,n9,he⟩:=hG.ends oH.o;unfold iT at he;subst he;clear hG;go_wp2;exact⟨rfl,HG.o⟩
 . obtain rfl:sz=-1:=by omega
   clear h0 hs0;by_cases h2:2000<x
   . have t1:decide (x<=2000)=false:=by rw[bQ];omega
     clear hbad h2;go_enter func128,ntmps128;go_wp2_with fail
     refine(iW 413 413 rfl _).mono ?_;rintro e w9 hG;obtain⟨HG,jL,iC,n9,he⟩:=hG.ends oH.o;unfold iT at he;subst he;clear hG;go_wp2;exact⟨rfl,HG.o⟩
   . have t1:decide (x<=2000)=true:=by rw[bR];omega
     have t2:decide (x≥en)=false:=by rw[bQ];omega
     clear hbad h2;go_enter func128,ntmps128;go_wp2_with fail
     refine(iW 413 413 rfl _).mono ?_;rintro e w9 hG;obtain⟨HG,jL,iC,n9,he⟩:=hG.ends oH.o;unfold iT at he;subst he;clear hG;go_wp2;exact⟨rfl,HG.o⟩
 . rcases hok with ⟨h0,rfl⟩ | ⟨h0,h1⟩
   . have t1:(x != -1)=true:=by rw[cZ];omega
     have t2:(x==x)=true:=by simp
     clear h0 hs0;go_enter func128,ntmps128;go_wp2_with fail
     refine(iR 400 none 0 0 _).mono ?_;rintro e w9 ⟨rfl,hw⟩;rw[hw];clear hw;go_wp2;first | go_end0 | refine gy (results_none rfl _ _ _) rfl ?_
     exact⟨rfl,oH.o⟩
   . obtain rfl:sz=-1:=by omega
     have t1:decide (x<=2000)=true:=by rw[bR];omega
     have t2:decide (x≥en)=true:=by rw[bR];omega
     clear h0 hs0 h1;go_enter func128,ntmps128;go_wp2_with fail
     refine(iR 413 none 0 0 _).mono ?_;rintro e w9 ⟨rfl,hw⟩;rw[hw];clear hw;go_wp2;go_end0
     exact⟨rfl,oH.o⟩
end
section
variable {g:Nat} {m t:ay} {mi ln:Int} {l:au} {fo:ak} {gM nf:Nat} {bo:ak} {gK nb:Nat} {w w0:World} {S:Nat->Prop} {s:Sr.Sh}
theorem QT (h:iI w S g s)(ob oc:Obj):jv iI S w g [.cells #[.pointer (some ⟨g,0,none⟩),.string m,.string t,.int .i64 mi,.slice fo nf gM,.int .i64 ln,.slice bo nb gK] 123 (0,0),ob,oc] s (fun k=>S k∧k<w.heap.size) (((w.alloc (.cells #[.pointer (some ⟨g,0,none⟩),.string m,.string t,.int .i64 mi,.slice fo nf gM,.int .i64 ln,.slice bo nb gK] 123)).alloc ob).alloc oc):=by
 have hz:((w.alloc (.cells #[.pointer (some ⟨g,0,none⟩),.string m,.string t,.int .i64 mi,.slice fo nf gM,.int .i64 ln,.slice bo nb gK] 123)).alloc ob).heap.size=w.heap.size+2:=by rw[fZ,fZ]
 exact(QL h ob).box iK hz (fun k e=>by rw[hz];have:=e.2;omega) _
theorem jv.up {bs:List Obj}{S':Nat->Prop}{s':Sr.Sh}{W:World}{u:Sp.Up}{uo:ak}{un ji:Nat}(h:jv iI S w g (.cells #[.pointer (some ⟨g,0,none⟩),.string m,.string t,.int .i64 mi,.slice fo nf gM,.int .i64 ln,.slice bo nb gK] 123 (0,0)::.cells #[.int .i64 u.id,.int .i64 u.size,.string u.note,.slice uo un ji,.int .i64 u.sent] 101 (0,0)::bs) s' S' W):W.cell? ⟨w.heap.size+1,0,none⟩=some (.int .i64 u.id)∧W.cell? ⟨w.heap.size+1,1,none⟩=some (.int .i64 u.size)∧W.cell? ⟨w.heap.size+1,2,none⟩=some (.string u.note)∧W.cell? ⟨w.heap.size+1,3,none⟩=some (.slice uo un ji)∧W.cell? ⟨w.heap.size+1,4,none⟩=some (.int .i64 u.sent):=by
 have r:=h.row 1 rfl;exact⟨fK W _ 0 _ _ _ r,fK W _ 1 _ _ _ r,fK W _ 2 _ _ _ r,fK W _ 3 _ _ _ r,fK W _ 4 _ _ _ r⟩
theorem Co (h:iI w S g s)(ok:Sr.Ok s)(u:Sp.Up)(uo:ak)(un ji:Nat):
 Calls prog 92 #[.agg #[.pointer (some ⟨g,0,none⟩),.string m,.string t,.int .i64 mi,.slice fo nf gM,.int .i64 ln,.slice bo nb gK],.agg #[.int .i64 u.id,.int .i64 u.size,.string u.note,.slice uo un ji,.int .i64 u.sent]] w fun e w'=>lU S w g (Sr.sync (Sr.drop s u.id).1,Tu.said 204 []) e w':=by
 have T3:jv iI S w g [.cells #[.pointer (some ⟨g,0,none⟩),.string m,.string t,.int .i64 mi,.slice fo nf gM,.int .i64 ln,.slice bo nb gK] 123 (0,0),.cells #[.int .i64 u.id,.int .i64 u.size,.string u.note,.slice uo un ji,.int .i64 u.sent] 101 (0,0),.cells #[.int .i64 0,.slice none 0 0,.slice none 0 0] 88 (0,0)] s (fun k=>S k∧k<w.heap.size) (((w.alloc (.cells #[.pointer (some ⟨g,0,none⟩),.string m,.string t,.int .i64 mi,.slice fo nf gM,.int .i64 ln,.slice bo nb gK] 123)).alloc (.cells #[.int .i64 u.id,.int .i64 u.size,.string u.note,.slice uo un ji,.int .i64 u.sent] 101)).alloc (.cells #[.int .i64 0,.slice none 0 0,.slice none 0 0] 88)):=QT h _ _;have HC:Hid (∀W s' S',jv iI S w g [.cells #[.pointer (some ⟨g,0,none⟩),.string m,.string t,.int .i64 mi,.slice fo nf gM,.int .i64 ln,.slice bo nb gK] 123 (0,0),.cells #[.int .i64 u.id,.int .i64 u.size,.string u.note,.slice uo un ji,.int .i64 u.sent] 101 (0,0),.cells #[.int .i64 0,.slice none 0 0,.slice none 0 0] 88 (0,0)] s' S' W->W.cell? ⟨w.heap.size,0,none⟩=some (.pointer (some ⟨g,0,none⟩))∧W.cell? ⟨w.heap.size,1,none⟩=some (.string m)∧W.cell? ⟨w.heap.size,2,none⟩=some (.string t)∧W.cell? ⟨w.heap.size,3,none⟩=some (.int .i64 mi)∧W.cell? ⟨w.heap.size,4,none⟩=some (.slice fo nf gM)∧W.cell? ⟨w.heap.size,5,none⟩=some (.int .i64 ln)∧W.cell? ⟨w.heap.size,6,none⟩=some (.slice bo nb gK)):=fun W s' S' hW=>hW.ex;obtain⟨x0,x1,x2,x3,x4,x5,x6⟩:=HC.o _ _ _ T3;obtain⟨v0,v1,v2,v3,v4⟩:=T3.up;have H3:=H9 T3;have UY:=H9 (yY T3.sh ok u.id);have HD:Hid ((Sr.sync (Sr.drop s u.id).1,Tu.said 204 [])=(Sr.sync (Sr.drop s u.id).1,Tu.said 204 [])):=by unfold Hid;rfl
 obtain⟨R,hR⟩:∃R,R=(Sr.sync (Sr.drop s u.id).1,Tu.said 204 []):=⟨_,rfl⟩;rw[<-hR];clear HD;have HD:=H9 hR;clear T3 ok h hR;go_enter func92,ntmps92;go_wp2_with fail
 refine UY.o.mono ?_;rintro e w4 ⟨rfl,ZU,EU⟩;have H4:=H9 (H3.o.did ZU EU);clear ZU EU UY H3 v0 v1 v2 v3 v4 x0 x1 x2 x3 x4 x5 x6;generalize Sr.drop s u.id=ra at *;obtain⟨sa,ca⟩:=ra;simp only at HD H4 ⊢;obtain⟨x0,x1,x2,x3,x4,x5,x6⟩:=HC.o _ _ _ H4.o;have J9:=H9 (oU H4.o.sh);go_wp2_with fail
 refine J9.o.mono ?_;rintro e w5 ⟨rfl,wR,xQ⟩;have H5:=H9 (H4.o.turned wR xQ);have Bg:=H9 (jZ 204 204 rfl [] none 0 0 w5 (jo.nil w5) rfl (by decide));clear wR xQ J9 H4 x0 x1 x2 x3 x4 x5 x6;go_wp2_with fail
 refine Bg.o.mono ?_;rintro e w9 ⟨jL,iC,n9,rfl,lu,jU,oC⟩;obtain⟨⟨z0,z1,z2,y0,y1,y2⟩,HE⟩:=H5.o.ends iK (i:=2) rfl (b:=w.heap.size+2) (by first | rfl | omega) (st:=204) (mF:=204) rfl lu (dG (dJ _ _) H5.o.sz) jU oC;clear lu jU oC;go_wp2;generalize (((w9.setCell ⟨w.heap.size+2,0,none⟩ (.int .i64 204)).setCell ⟨w.heap.size+2,1,none⟩ (.slice jL n9 iC)).setCell ⟨w.heap.size+2,2,none⟩ (.slice none 0 0))=wf at *;obtain⟨q0,q1,q2,q3⟩:=HE.o;refine gy (v:=.agg #[.int .i64 204,.slice jL n9 iC,.slice none 0 0]) (by simp[results,results92,go_sem,q0,q1,q2]) rfl ?_;rw[HD.o];exact lU.of q3
end
section
variable {g:Nat} {m t:ay} {mi ln:Int} {l:au} {fo:ak} {gM nf:Nat} {bo:ak} {gK nb:Nat} {w w0:World} {S:Nat->Prop} {s:Sr.Sh}
theorem yD (name:ay)(hN:name.size<=2000)(h:pX w l fo gM nf):
 ((Tu.jB (Tu.one (Tu.vals name l))).2=false∧Hid (∀W,aj w W->Calls prog 127 #[.agg #[.pointer (some ⟨g,0,none⟩),.string m,.string t,.int .i64 mi,.slice fo nf gM,.int .i64 ln,.slice bo nb gK],.string name] W fun e w'=>qI W (Tu.said 400 []) e w')) ∨
 (Tu.jB (Tu.one (Tu.vals name l))=(-1,true)∧Hid (∀W,aj w W->Calls prog 127 #[.agg #[.pointer (some ⟨g,0,none⟩),.string m,.string t,.int .i64 mi,.slice fo nf gM,.int .i64 ln,.slice bo nb gK],.string name] W fun e w'=>e=.returned (.tuple #[.int .i64 0,.bool false])∧aj W w')) ∨
 (∃x:Int,0<=x∧x<1000000000∧Tu.jB (Tu.one (Tu.vals name l))=(x,true)∧Hid (∀W,aj w W->Calls prog 127 #[.agg #[.pointer (some ⟨g,0,none⟩),.string m,.string t,.int .i64 mi,.slice fo nf gM,.int .i64 ln,.slice bo nb gK],.string name] W fun e w'=>e=.returned (.tuple #[.int .i64 x,.bool true])∧aj W w')):=by
 by_cases hc:(Tu.one (Tu.vals name l)).2=10
 . exact Or.inr (Or.inl ⟨Tu.EB hc,fun W hW=>zV name hN (h.stay hW) hc⟩)
 . cases hb:(Tu.jB (Tu.one (Tu.vals name l))).2 with
   | false=>exact Or.inl ⟨rfl,fun W hW=>Eu name hN (h.stay hW) hb⟩
   | true =>
     have he:Tu.jB (Tu.one (Tu.vals name l))=((Tu.jB (Tu.one (Tu.vals name l))).1,true):=by rw[<-hb]
     refine Or.inr (Or.inr ⟨_,Tu.Io hc he,?_,he,fun W hW=>BR name hN (h.stay hW) hc he⟩);generalize Tu.one (Tu.vals name l)=r at *;unfold Tu.jB at hb ⊢;rw[if_neg hc] at hb ⊢;rw[dh] at hb;exact(Ch.qK hb.1).2
theorem Cq (p:wS w0 w S)(h:iI w S g s)(ok:Sr.Ok s)(hF:pX w l fo gM nf)(body:av)(hb:body.length=nb)(hB:iH w bo gK body)(hnb:nb<=100000)(u:Sp.Up)(uo:ak)(un ji:Nat)(hun:u.bytes.length=un)(UR:un<=2000)(hs0:-1<=u.size):
 Calls prog 91 #[.agg #[.pointer (some ⟨g,0,none⟩),.string m,.string t,.int .i64 mi,.slice fo nf gM,.int .i64 ln,.slice bo nb gK],.agg #[.int .i64 u.id,.int .i64 u.size,.string u.note,.slice uo un ji,.int .i64 u.sent]] w fun e w'=>lU S w g (Tu.patch s u l body) e w':=by
 have T3:jv iI S w g [.cells #[.pointer (some ⟨g,0,none⟩),.string m,.string t,.int .i64 mi,.slice fo nf gM,.int .i64 ln,.slice bo nb gK] 123 (0,0),.cells #[.int .i64 u.id,.int .i64 u.size,.string u.note,.slice uo un ji,.int .i64 u.sent] 101 (0,0),.cells #[.int .i64 0,.slice none 0 0,.slice none 0 0] 88 (0,0)] s (fun k=>S k∧k<w.heap.size) (((w.alloc (.cells #[.pointer (some ⟨g,0,none⟩),.string m,.string t,.int .i64 mi,.slice fo nf gM,.int .i64 ln,.slice bo nb gK] 123)).alloc (.cells #[.int .i64 u.id,.int .i64 u.size,.string u.note,.slice uo un ji,.int .i64 u.sent] 101)).alloc (.cells #[.int .i64 0,.slice none 0 0,.slice none 0 0] 88)):=QT h _ _;have HB3:Hid (aj w (((w.alloc (.cells #[.pointer (some ⟨g,0,none⟩),.string m,.string t,.int .i64 mi,.slice fo nf gM,.int .i64 ln,.slice bo nb gK] 123)).alloc (.cells #[.int .i64 u.id,.int .i64 u.size,.string u.note,.slice uo un ji,.int .i64 u.sent] 101)).alloc (.cells #[.int .i64 0,.slice none 0 0,.slice none 0 0] 88))):=then_ (then_ ((fJ _ w).alloc (aM _) _) ((fJ _ _).alloc (aM _) _)) ((fJ _ _).alloc (aM _) _);have HC:Hid (∀W s' S',jv iI S w g [.cells #[.pointer (some ⟨g,0,none⟩),.string m,.string t,.int .i64 mi,.slice fo nf gM,.int .i64 ln,.slice bo nb gK] 123 (0,0),.cells #[.int .i64 u.id,.int .i64 u.size,.string u.note,.slice uo un ji,.int .i64 u.sent] 101 (0,0),.cells #[.int .i64 0,.slice none 0 0,.slice none 0 0] 88 (0,0)] s' S' W->W.cell? ⟨w.heap.size,0,none⟩=some (.pointer (some ⟨g,0,none⟩))∧W.cell? ⟨w.heap.size,1,none⟩=some (.string m)∧W.cell? ⟨w.heap.size,2,none⟩=some (.string t)∧W.cell? ⟨w.heap.size,3,none⟩=some (.int .i64 mi)∧W.cell? ⟨w.heap.size,4,none⟩=some (.slice fo nf gM)∧W.cell? ⟨w.heap.size,5,none⟩=some (.int .i64 ln)∧W.cell? ⟨w.heap.size,6,none⟩=some (.slice bo nb gK)):=fun W s' S' hW=>hW.ex;have HU:Hid (∀W s' S',jv iI S w g [.cells #[.pointer (some ⟨g,0,none⟩),.string m,.string t,.int .i64 mi,.slice fo nf gM,.int .i64 ln,.slice bo nb gK] 123 (0,0),.cells #[.int .i64 u.id,.int .i64 u.size,.string u.note,.slice uo un ji,.int .i64 u.sent] 101 (0,0),.cells #[.int .i64 0,.slice none 0 0,.slice none 0 0] 88 (0,0)] s' S' W->W.cell? ⟨w.heap.size+1,0,none⟩=some (.int .i64 u.id)∧W.cell? ⟨w.heap.size+1,1,none⟩=some (.int .i64 u.size)∧W.cell? ⟨w.heap.size+1,2,none⟩=some (.string u.note)∧W.cell? ⟨w.heap.size+1,3,none⟩=some (.slice uo un ji)∧W.cell? ⟨w.heap.size+1,4,none⟩=some (.int .i64 u.sent)):=fun W s' S' hW=>hW.up;have H3:=H9 T3;obtain⟨x0,x1,x2,x3,x4,x5,x6⟩:=HC.o _ _ _ H3.o;obtain⟨v0,v1,v2,v3,v4⟩:=HU.o _ _ _ H3.o;have HF:=H9 hF;have qy:=H9 ok;have IE:=H9 p
 have EC:Hid (∀W,aj w W->iH W bo gK body):=fun W hW=>hB.stay hW;have UN:=H9 hb;have hN1:=yD (g:=g) (m:=m) (t:=t) (mi:=mi) (ln:=ln) (bo:=bo) (gK:=gK) (nb:=nb) Tu.vE (by decide) hF;have Zp:=yD (g:=g) (m:=m) (t:=t) (mi:=mi) (ln:=ln) (bo:=bo) (gK:=gK) (nb:=nb) Tu.Dw (by decide) hF;rw[Tu.Wv] at hN1;rw[Tu.wK] at Zp;unfold Tu.vE at hN1;unfold Tu.Dw at Zp;have F5:Hid (∀x W,0<=u.size->x≠u.size->Calls prog 128 #[.agg #[.int .i64 u.id,.int .i64 u.size,.string u.note,.slice uo un ji,.int .i64 u.sent],.int .i64 x,.int .i64 ((un:Int)+nb)] W fun e w'=>qI W (Tu.said 400 []) e w'):=fun x W=>(vg u.id u.size u.sent x ((un:Int)+nb) u.note uo un ji W hs0).1;have HS2:Hid (∀x W,u.size<0->(2000<x∨x<(un:Int)+nb)->Calls prog 128 #[.agg #[.int .i64 u.id,.int .i64 u.size,.string u.note,.slice uo un ji,.int .i64 u.sent],.int .i64 x,.int .i64 ((un:Int)+nb)] W fun e w'=>qI W (Tu.said 413 []) e w'):=fun x W=>(vg u.id u.size u.sent x ((un:Int)+nb) u.note uo un ji W hs0).2.1;have Jg:Hid (∀x W,(0<=u.size∧x=u.size)∨(u.size<0∧¬(2000<x∨x<(un:Int)+nb))->Calls prog 128 #[.agg #[.int .i64 u.id,.int .i64 u.size,.string u.note,.slice uo un ji,.int .i64 u.sent],.int .i64 x,.int .i64 ((un:Int)+nb)] W fun e w'=>e=.returned (.tuple #[])∧aj W w'):=fun x W=>(vg u.id u.size u.sent x ((un:Int)+nb) u.note uo un ji W hs0).2.2;clear T3 hF ok p h hB;obtain⟨R,hR⟩:∃R,R=Tu.patch s u l body:=⟨_,rfl⟩;rw[<-hR];unfold Tu.patch at hR;rw[hun,hb] at hR;have HD:=H9 hR;clear hR hun hb;go_enter func91,ntmps91;by_cases Zo:(Tu.one (Tu.vals Tu.MV l)).2=9
 . rw[if_pos Zo] at HD;have HM:=H9 (Mr (g:=g) (m:=m) (t:=t) (mi:=mi) (ln:=ln) (bo:=bo) (gK:=gK) (nb:=nb) (HF.o.stay HB3.o) Zo);clear Zo hN1 Zp;go_wp2_with fail
   refine(HM.o).mono ?_;rintro e w9 hG;obtain⟨HE,jL,iC,n9,he⟩:=H3.o.fell hG;unfold iT at he;subst he;clear hG;go_wp2;exact⟨rfl,by rw[HD.o];exact HE.o⟩
 rw[if_neg Zo] at HD;obtain⟨hm1,hm2⟩:=O5 (g:=g) (m:=m) (t:=t) (mi:=mi) (ln:=ln) (bo:=bo) (gK:=gK) (nb:=nb) (HF.o.stay HB3.o) Zo;clear Zo;cases hoff:Tu.Dy (Tu.one (Tu.vals Tu.MV l)).1 with
 | false =>
   rw[if_pos hoff] at HD;have HM:=H9 (hm1 hoff);clear hm1 hm2 hoff hN1 Zp;go_wp2_with fail
   refine(HM.o).mono ?_;rintro e w9 hG;obtain⟨HE,jL,iC,n9,he⟩:=H3.o.fell hG;unfold iT at he;subst he;clear hG;go_wp2;exact⟨rfl,by rw[HD.o];exact HE.o⟩
 | true =>
 rw[if_neg (by rw[hoff];simp)] at HD;have HM:=H9 (hm2 hoff);clear hm1 hm2 hoff;go_wp2_with fail
 refine(HM.o).mono ?_;rintro e w4 ⟨rfl,hw⟩;have jK:=H9 (then_ HB3.o hw);have H4:=H9 (H3.o.stay iK hw);clear hw H3 HB3 x0 x1 x2 x3 x4 x5 x6 v0 v1 v2 v3 v4;obtain⟨x0,x1,x2,x3,x4,x5,x6⟩:=HC.o _ _ _ H4.o;obtain⟨v0,v1,v2,v3,v4⟩:=HU.o _ _ _ H4.o;clear HM;rcases hN1 with ⟨hx,HN⟩ | ⟨hx,HN⟩ | ⟨x,hx0,hx1,hx,HN⟩
 . rw[if_pos (Or.inl hx)] at HD;clear hx Zp;go_wp2_with fail
   refine(HN.o _ jK.o).mono ?_;rintro e w9 hG;obtain⟨HE,jL,iC,n9,he⟩:=H4.o.fell hG;unfold iT at he;subst he;clear hG;go_wp2;exact⟨rfl,by rw[HD.o];exact HE.o⟩
 . rw[if_pos (Or.inr (by rw[hx];decide))] at HD;clear hx Zp;go_wp2_with fail
   refine(HN.o _ jK.o).mono ?_;rintro e w5 ⟨rfl,hw⟩;have qY:=H9 (then_ jK.o hw);have H5:=H9 (H4.o.stay iK hw);clear hw H4 jK x0 x1 x2 x3 x4 x5 x6 v0 v1 v2 v3 v4;obtain⟨x0,x1,x2,x3,x4,x5,x6⟩:=HC.o _ _ _ H5.o;obtain⟨v0,v1,v2,v3,v4⟩:=HU.o _ _ _ H5.o;go_wp2_with fail
   refine(iW 400 400 rfl _).mono ?_;rintro e w9 hG;obtain⟨HE,jL,iC,n9,he⟩:=H5.o.fell hG;unfold iT at he;subst he;clear hG;go_wp2;exact⟨rfl,by rw[HD.o];exact HE.o⟩
 rw[if_neg (by rw[hx];exact fun e=>e.elim (fun e=>by cases e) (fun e=>absurd e (by show ¬x<0;omega)))] at HD;rw[hx] at HD;simp only at HD;clear hx;go_wp2_with fail
 refine(HN.o _ jK.o).mono ?_;rintro e w5 ⟨rfl,hw⟩;have qY:=H9 (then_ jK.o hw);have H5:=H9 (H4.o.stay iK hw);clear hw H4 jK x0 x1 x2 x3 x4 x5 x6 v0 v1 v2 v3 v4;obtain⟨x0,x1,x2,x3,x4,x5,x6⟩:=HC.o _ _ _ H5.o;obtain⟨v0,v1,v2,v3,v4⟩:=HU.o _ _ _ H5.o;clear HN;go_wp2_with fail
 refine(iR 400 none 0 0 _).mono ?_;rintro e wq ⟨rfl,hw⟩;rw[hw];clear hw;by_cases hxu:x=(un:Int)
 case neg =>
  rw[if_pos hxu] at HD;have tx:(x==(un:Int))=false:=by rw[aS];exact hxu
  clear hxu Zp;go_wp2_with fail
  refine(iW 409 409 rfl _).mono ?_;rintro e w9 hG;obtain⟨HE,jL,iC,n9,he⟩:=H5.o.fell hG;unfold iT at he;subst he;clear hG;go_wp2;exact⟨rfl,by rw[HD.o];exact HE.o⟩
 rw[if_neg (fun e=>e hxu)] at HD;subst hxu;clear hx0 hx1;go_wp2_with fail
 refine(iR 409 none 0 0 _).mono ?_;rintro e wq ⟨rfl,hw⟩;rw[hw];clear hw;rcases Zp with ⟨hy,HN⟩ | ⟨hy,HN⟩ | ⟨y,hy0,hy1,hy,HN⟩
 . rw[if_pos (Or.inl hy)] at HD;clear hy;go_wp2_with fail
   refine(HN.o _ qY.o).mono ?_;rintro e w9 hG;obtain⟨HE,jL,iC,n9,he⟩:=H5.o.fell hG;unfold iT at he;subst he;clear hG;go_wp2;exact⟨rfl,by rw[HD.o];exact HE.o⟩
 . have hte:Tu.tell u l<->(0<=(-1:Int)∧u.size<0):=by unfold Tu.tell;rw[hy]
   rw[hy] at HD;simp only at HD;rw[if_neg (fun e=>e.elim (fun e=>by cases e) (fun e=>by have:=e.1;omega)),if_neg (fun e=>by have:=(hte.1 e.1).1;omega)] at HD;have HTe:=H9 hte;clear hy hte;go_wp2_with fail
   refine(HN.o _ qY.o).mono ?_;rintro e w6 ⟨rfl,hw⟩;have vP:=H9 (then_ qY.o hw);have H6:=H9 (H5.o.stay iK hw);clear hw H5 qY x0 x1 x2 x3 x4 x5 x6 v0 v1 v2 v3 v4;obtain⟨x0,x1,x2,x3,x4,x5,x6⟩:=HC.o _ _ _ H6.o;obtain⟨v0,v1,v2,v3,v4⟩:=HU.o _ _ _ H6.o;obtain⟨brm,EW⟩:∃b,(decide ((0:Int)<=(nb:Int)+60)&&decide ((nb:Int)+60<=100000-(s.log.length:Int)))=b:=⟨_,rfl⟩;have eR:brm=false<->100000<s.log.length+(nb+60):=by
    rw[<-EW,dx,bQ,bQ];omega
   have O6:=H9 (uZ H6.o.sh ((nb:Int)+60));rw[EW] at O6;clear EW;go_wp2_with fail
   refine O6.o.mono ?_;rintro e wq ⟨rfl,hw⟩;rw[hw];clear hw;clear O6;cases brm with
   | false =>
     rw[if_pos (eR.1 rfl)] at HD;go_wp2_with fail
     refine(iW 507 507 rfl _).mono ?_;rintro e w9 hG;obtain⟨HE,jL,iC,n9,he⟩:=H6.o.fell hG;unfold iT at he;subst he;clear hG;go_wp2;exact⟨rfl,by rw[HD.o];exact HE.o⟩
   | true =>
     rw[if_neg (fun e=>by have:=eR.2 e;cases this)] at HD;clear eR;go_wp2_with fail
     refine(iR 507 none 0 0 _).mono ?_;rintro e wq ⟨rfl,hw⟩;rw[hw];clear hw;have M9:=H9 (qN H6.o.sh qy.o u.id (un:Int) bo nb gK body (EC.o _ vP.o) UN.o (by omega));have EX:Hid ((Sr.append s u.id (un:Int) body).2≠0->(Sr.append s u.id (un:Int) body).1=s):=fun e=>by unfold Sr.append at e ⊢;exact Tu.oK e
     have HOa:Hid (Sr.Ok (Sr.append s u.id (un:Int) body).1):=qy.o.append _ _ _;go_wp2_with fail
     refine M9.o.mono ?_;rintro e w20 ⟨rfl,hat,hT⟩;have EY:=H9 (H6.o.did hat hT);clear hat hT M9 H6 vP x0 x1 x2 x3 x4 x5 x6 v0 v1 v2 v3 v4;generalize Sr.append s u.id (un:Int) body=ra at *;obtain⟨sa,ca⟩:=ra;simp only at HD EX EY HOa ⊢;obtain⟨x0,x1,x2,x3,x4,x5,x6⟩:=HC.o _ _ _ EY.o;obtain⟨v0,v1,v2,v3,v4⟩:=HU.o _ _ _ EY.o;by_cases hca:ca=0
     . subst hca;rw[if_neg (by simp)] at HD;clear EX;go_wp2_with fail
       refine(qJ _).mono ?_;rintro e wq ⟨rfl,hw⟩;rw[hw];clear hw;rw[if_neg (fun e=>by have:=(HTe.o.1 e).1;omega)] at HD;have J9:=H9 (oU EY.o.sh);go_wp2_with fail
       refine J9.o.mono ?_;rintro e w22 ⟨rfl,wO,qZ⟩;have Xw:=H9 (EY.o.turned wO qZ);have Cr:=H9 (oO Tu.vE (un+nb) ((un:Int)+nb) (by omega) (by omega) w22 (Xw.o.pow IE.o));unfold Tu.vE at Cr;generalize Tu.dec (un+nb)=db at *;clear wO qZ J9 EY x0 x1 x2 x3 x4 x5 x6 v0 v1 v2 v3 v4;go_wp2_with fail
       refine Cr.o.mono ?_;rintro e Xx ⟨rfl,hw⟩;have Xy:=H9 ((Xw.o.stay iK hw).stay iK ((fJ _ Xx).alloc (aM _) (.cells #[.string Tu.vE,.string db] 111)));have Bg:=H9 (jZ 204 204 rfl [(Tu.vE,db)] (some ⟨Xx.heap.size,0,none⟩) 1 1 _ (jo.made Xx #[.string Tu.vE,.string db] 1 111 (0,0)) rfl (by decide));unfold Tu.vE at Bg Xy;clear hw Cr Xw;go_wp2_with fail
       refine Bg.o.mono ?_;rintro e w9 ⟨jL,iC,n9,rfl,lu,jU,oC⟩;obtain⟨⟨z0,z1,z2,y0,y1,y2⟩,HE⟩:=Xy.o.ends iK (i:=2) rfl (b:=w.heap.size+2) (by first | rfl | omega) (st:=204) (mF:=204) rfl lu (dG (dJ _ _) Xy.o.sz) jU oC;clear lu jU oC;go_wp2;generalize (((w9.setCell ⟨w.heap.size+2,0,none⟩ (.int .i64 204)).setCell ⟨w.heap.size+2,1,none⟩ (.slice jL n9 iC)).setCell ⟨w.heap.size+2,2,none⟩ (.slice none 0 0))=wf at *;obtain⟨q0,q1,q2,q3⟩:=HE.o;refine gy (v:=.agg #[.int .i64 204,.slice jL n9 iC,.slice none 0 0]) (by simp[results,results91,go_sem,q0,q1,q2]) rfl ?_;rw[HD.o];exact lU.of q3
     . rw[if_pos hca] at HD;have hsa:=EX.o hca;subst hsa;have HNd:=H9 (sP ca hca w20);clear hca EX;go_wp2_with fail
       refine(HNd.o).mono ?_;rintro e w9 hG;obtain⟨HE,jL,iC,n9,he⟩:=EY.o.fell hG;unfold iT at he;subst he;clear hG;go_wp2;exact⟨rfl,by rw[HD.o];exact HE.o⟩
 . have hte:Tu.tell u l<->(0<=y∧u.size<0):=by unfold Tu.tell;rw[hy]
   rw[hy] at HD;simp only at HD;have HTe:=H9 hte;clear hy hte;go_wp2_with fail
   refine(HN.o _ qY.o).mono ?_;rintro e w6 ⟨rfl,hw⟩;have vP:=H9 (then_ qY.o hw);have H6:=H9 (H5.o.stay iK hw);clear hw H5 qY x0 x1 x2 x3 x4 x5 x6 v0 v1 v2 v3 v4;obtain⟨x0,x1,x2,x3,x4,x5,x6⟩:=HC.o _ _ _ H6.o;obtain⟨v0,v1,v2,v3,v4⟩:=HU.o _ _ _ H6.o;by_cases hsz:u.size<0
   . rw[if_neg (fun e=>e.elim (fun e=>by cases e) (fun e=>by have:=e.2.1;omega))] at HD;by_cases hbad:2000<y∨y<(un:Int)+nb
     . rw[if_pos ⟨HTe.o.2 ⟨hy0,hsz⟩,by simpa using hbad⟩] at HD;have HQ:=H9 (HS2.o y w6 hsz hbad);go_wp2_with fail
       refine(HQ.o).mono ?_;rintro e w9 hG;obtain⟨HE,jL,iC,n9,he⟩:=H6.o.fell hG;unfold iT at he;subst he;clear hG;go_wp2;exact⟨rfl,by rw[HD.o];exact HE.o⟩
     . rw[if_neg (fun e=>hbad (by simpa using e.2))] at HD;have HQ:=H9 (Jg.o y w6 (Or.inr ⟨hsz,hbad⟩));clear hbad;go_wp2_with fail
       refine(HQ.o).mono ?_;rintro e w7 ⟨rfl,hw⟩;have IL:=H9 (then_ vP.o hw);have H7:=H9 (H6.o.stay iK hw);clear hw H6 vP x0 x1 x2 x3 x4 x5 x6 v0 v1 v2 v3 v4;obtain⟨x0,x1,x2,x3,x4,x5,x6⟩:=HC.o _ _ _ H7.o;obtain⟨v0,v1,v2,v3,v4⟩:=HU.o _ _ _ H7.o;clear HQ;obtain⟨brm,EW⟩:∃b,(decide ((0:Int)<=(nb:Int)+60)&&decide ((nb:Int)+60<=100000-(s.log.length:Int)))=b:=⟨_,rfl⟩;have eR:brm=false<->100000<s.log.length+(nb+60):=by
        rw[<-EW,dx,bQ,bQ];omega
       have O6:=H9 (uZ H7.o.sh ((nb:Int)+60));rw[EW] at O6;clear EW;go_wp2_with fail
       refine O6.o.mono ?_;rintro e wq ⟨rfl,hw⟩;rw[hw];clear hw;clear O6;cases brm with
       | false =>
         rw[if_pos (eR.1 rfl)] at HD;go_wp2_with fail
         refine(iW 507 507 rfl _).mono ?_;rintro e w9 hG;obtain⟨HE,jL,iC,n9,he⟩:=H7.o.fell hG;unfold iT at he;subst he;clear hG;go_wp2;exact⟨rfl,by rw[HD.o];exact HE.o⟩
       | true =>
         rw[if_neg (fun e=>by have:=eR.2 e;cases this)] at HD;clear eR;go_wp2_with fail
         refine(iR 507 none 0 0 _).mono ?_;rintro e wq ⟨rfl,hw⟩;rw[hw];clear hw;have M9:=H9 (qN H7.o.sh qy.o u.id (un:Int) bo nb gK body (EC.o _ IL.o) UN.o (by omega));have EX:Hid ((Sr.append s u.id (un:Int) body).2≠0->(Sr.append s u.id (un:Int) body).1=s):=fun e=>by unfold Sr.append at e ⊢;exact Tu.oK e
         have HOa:Hid (Sr.Ok (Sr.append s u.id (un:Int) body).1):=qy.o.append _ _ _;go_wp2_with fail
         refine M9.o.mono ?_;rintro e w20 ⟨rfl,hat,hT⟩;have EY:=H9 (H7.o.did hat hT);clear hat hT M9 H7 IL x0 x1 x2 x3 x4 x5 x6 v0 v1 v2 v3 v4;generalize Sr.append s u.id (un:Int) body=ra at *;obtain⟨sa,ca⟩:=ra;simp only at HD EX EY HOa ⊢;obtain⟨x0,x1,x2,x3,x4,x5,x6⟩:=HC.o _ _ _ EY.o;obtain⟨v0,v1,v2,v3,v4⟩:=HU.o _ _ _ EY.o;by_cases hca:ca=0
         . subst hca;rw[if_neg (by simp)] at HD;clear EX;go_wp2_with fail
           refine(qJ _).mono ?_;rintro e wq ⟨rfl,hw⟩;rw[hw];clear hw;rw[if_pos (HTe.o.2 ⟨hy0,hsz⟩)] at HD;have t1:(u.size==-1)=true:=by rw[aT];omega
           have HDc:=H9 (F7 EY.o.sh HOa.o u.id y);go_wp2_with fail
           refine HDc.o.mono ?_;rintro e w21 ⟨rfl,hat,hT⟩;have H21:=H9 (EY.o.did hat hT);clear hat hT HDc EY x0 x1 x2 x3 x4 x5 x6 v0 v1 v2 v3 v4;generalize Sr.declare sa u.id y=rd at *;obtain⟨sd,cd⟩:=rd;simp only at HD H21 ⊢;obtain⟨x0,x1,x2,x3,x4,x5,x6⟩:=HC.o _ _ _ H21.o;obtain⟨v0,v1,v2,v3,v4⟩:=HU.o _ _ _ H21.o;have J9:=H9 (oU H21.o.sh);go_wp2_with fail
           refine J9.o.mono ?_;rintro e w22 ⟨rfl,wO,qZ⟩;have Xw:=H9 (H21.o.turned wO qZ);have Cr:=H9 (oO Tu.vE (un+nb) ((un:Int)+nb) (by omega) (by omega) w22 (Xw.o.pow IE.o));unfold Tu.vE at Cr;generalize Tu.dec (un+nb)=db at *;clear wO qZ J9 H21 x0 x1 x2 x3 x4 x5 x6 v0 v1 v2 v3 v4;go_wp2_with fail
           refine Cr.o.mono ?_;rintro e Xx ⟨rfl,hw⟩;have Xy:=H9 ((Xw.o.stay iK hw).stay iK ((fJ _ Xx).alloc (aM _) (.cells #[.string Tu.vE,.string db] 111)));have Bg:=H9 (jZ 204 204 rfl [(Tu.vE,db)] (some ⟨Xx.heap.size,0,none⟩) 1 1 _ (jo.made Xx #[.string Tu.vE,.string db] 1 111 (0,0)) rfl (by decide));unfold Tu.vE at Bg Xy;clear hw Cr Xw;go_wp2_with fail
           refine Bg.o.mono ?_;rintro e w9 ⟨jL,iC,n9,rfl,lu,jU,oC⟩;obtain⟨⟨z0,z1,z2,y0,y1,y2⟩,HE⟩:=Xy.o.ends iK (i:=2) rfl (b:=w.heap.size+2) (by first | rfl | omega) (st:=204) (mF:=204) rfl lu (dG (dJ _ _) Xy.o.sz) jU oC;clear lu jU oC;go_wp2;generalize (((w9.setCell ⟨w.heap.size+2,0,none⟩ (.int .i64 204)).setCell ⟨w.heap.size+2,1,none⟩ (.slice jL n9 iC)).setCell ⟨w.heap.size+2,2,none⟩ (.slice none 0 0))=wf at *;obtain⟨q0,q1,q2,q3⟩:=HE.o;refine gy (v:=.agg #[.int .i64 204,.slice jL n9 iC,.slice none 0 0]) (by simp[results,results91,go_sem,q0,q1,q2]) rfl ?_;rw[HD.o];exact lU.of q3
         . rw[if_pos hca] at HD;have hsa:=EX.o hca;subst hsa;have HNd:=H9 (sP ca hca w20);clear hca EX;go_wp2_with fail
           refine(HNd.o).mono ?_;rintro e w9 hG;obtain⟨HE,jL,iC,n9,he⟩:=EY.o.fell hG;unfold iT at he;subst he;clear hG;go_wp2;exact⟨rfl,by rw[HD.o];exact HE.o⟩
   . have hsz0:0<=u.size:=by omega
     by_cases hne:y=u.size
     . rw[if_neg (fun e=>e.elim (fun e=>by cases e) (fun e=>e.2.2 hne)),if_neg (fun e=>hsz (HTe.o.1 e.1).2)] at HD;have HQ:=H9 (Jg.o y w6 (Or.inl ⟨hsz0,hne⟩));clear hne;go_wp2_with fail
       refine(HQ.o).mono ?_;rintro e w7 ⟨rfl,hw⟩;have IL:=H9 (then_ vP.o hw);have H7:=H9 (H6.o.stay iK hw);clear hw H6 vP x0 x1 x2 x3 x4 x5 x6 v0 v1 v2 v3 v4;obtain⟨x0,x1,x2,x3,x4,x5,x6⟩:=HC.o _ _ _ H7.o;obtain⟨v0,v1,v2,v3,v4⟩:=HU.o _ _ _ H7.o;clear HQ;obtain⟨brm,EW⟩:∃b,(decide ((0:Int)<=(nb:Int)+60)&&decide ((nb:Int)+60<=100000-(s.log.length:Int)))=b:=⟨_,rfl⟩;have eR:brm=false<->100000<s.log.length+(nb+60):=by
        rw[<-EW,dx,bQ,bQ];omega
       have O6:=H9 (uZ H7.o.sh ((nb:Int)+60));rw[EW] at O6;clear EW;go_wp2_with fail
       refine O6.o.mono ?_;rintro e wq ⟨rfl,hw⟩;rw[hw];clear hw;clear O6;cases brm with
       | false =>
         rw[if_pos (eR.1 rfl)] at HD;go_wp2_with fail
         refine(iW 507 507 rfl _).mono ?_;rintro e w9 hG;obtain⟨HE,jL,iC,n9,he⟩:=H7.o.fell hG;unfold iT at he;subst he;clear hG;go_wp2;exact⟨rfl,by rw[HD.o];exact HE.o⟩
       | true =>
         rw[if_neg (fun e=>by have:=eR.2 e;cases this)] at HD;clear eR;go_wp2_with fail
         refine(iR 507 none 0 0 _).mono ?_;rintro e wq ⟨rfl,hw⟩;rw[hw];clear hw;have M9:=H9 (qN H7.o.sh qy.o u.id (un:Int) bo nb gK body (EC.o _ IL.o) UN.o (by omega));have EX:Hid ((Sr.append s u.id (un:Int) body).2≠0->(Sr.append s u.id (un:Int) body).1=s):=fun e=>by unfold Sr.append at e ⊢;exact Tu.oK e
         have HOa:Hid (Sr.Ok (Sr.append s u.id (un:Int) body).1):=qy.o.append _ _ _;go_wp2_with fail
         refine M9.o.mono ?_;rintro e w20 ⟨rfl,hat,hT⟩;have EY:=H9 (H7.o.did hat hT);clear hat hT M9 H7 IL x0 x1 x2 x3 x4 x5 x6 v0 v1 v2 v3 v4;generalize Sr.append s u.id (un:Int) body=ra at *;obtain⟨sa,ca⟩:=ra;simp only at HD EX EY HOa ⊢;obtain⟨x0,x1,x2,x3,x4,x5,x6⟩:=HC.o _ _ _ EY.o;obtain⟨v0,v1,v2,v3,v4⟩:=HU.o _ _ _ EY.o;by_cases hca:ca=0
         . subst hca;rw[if_neg (by simp)] at HD;clear EX;go_wp2_with fail
           refine(qJ _).mono ?_;rintro e wq ⟨rfl,hw⟩;rw[hw];clear hw;have t1:(u.size==-1)=false:=by rw[aS];omega
           rw[if_neg (fun e=>by have:=(HTe.o.1 e).2;omega)] at HD;have J9:=H9 (oU EY.o.sh);go_wp2_with fail
           refine J9.o.mono ?_;rintro e w22 ⟨rfl,wO,qZ⟩;have Xw:=H9 (EY.o.turned wO qZ);have Cr:=H9 (oO Tu.vE (un+nb) ((un:Int)+nb) (by omega) (by omega) w22 (Xw.o.pow IE.o));unfold Tu.vE at Cr;generalize Tu.dec (un+nb)=db at *;clear wO qZ J9 EY x0 x1 x2 x3 x4 x5 x6 v0 v1 v2 v3 v4;go_wp2_with fail
           refine Cr.o.mono ?_;rintro e Xx ⟨rfl,hw⟩;have Xy:=H9 ((Xw.o.stay iK hw).stay iK ((fJ _ Xx).alloc (aM _) (.cells #[.string Tu.vE,.string db] 111)));have Bg:=H9 (jZ 204 204 rfl [(Tu.vE,db)] (some ⟨Xx.heap.size,0,none⟩) 1 1 _ (jo.made Xx #[.string Tu.vE,.string db] 1 111 (0,0)) rfl (by decide));unfold Tu.vE at Bg Xy;clear hw Cr Xw;go_wp2_with fail
           refine Bg.o.mono ?_;rintro e w9 ⟨jL,iC,n9,rfl,lu,jU,oC⟩;obtain⟨⟨z0,z1,z2,y0,y1,y2⟩,HE⟩:=Xy.o.ends iK (i:=2) rfl (b:=w.heap.size+2) (by first | rfl | omega) (st:=204) (mF:=204) rfl lu (dG (dJ _ _) Xy.o.sz) jU oC;clear lu jU oC;go_wp2;generalize (((w9.setCell ⟨w.heap.size+2,0,none⟩ (.int .i64 204)).setCell ⟨w.heap.size+2,1,none⟩ (.slice jL n9 iC)).setCell ⟨w.heap.size+2,2,none⟩ (.slice none 0 0))=wf at *;obtain⟨q0,q1,q2,q3⟩:=HE.o;refine gy (v:=.agg #[.int .i64 204,.slice jL n9 iC,.slice none 0 0]) (by simp[results,results91,go_sem,q0,q1,q2]) rfl ?_;rw[HD.o];exact lU.of q3
         . rw[if_pos hca] at HD;have hsa:=EX.o hca;subst hsa;have HNd:=H9 (sP ca hca w20);clear hca EX;go_wp2_with fail
           refine(HNd.o).mono ?_;rintro e w9 hG;obtain⟨HE,jL,iC,n9,he⟩:=EY.o.fell hG;unfold iT at he;subst he;clear hG;go_wp2;exact⟨rfl,by rw[HD.o];exact HE.o⟩
     . rw[if_pos (Or.inr ⟨hy0,hsz0,hne⟩)] at HD;have HQ:=H9 (F5.o y w6 hsz0 hne);clear hne;go_wp2_with fail
       refine(HQ.o).mono ?_;rintro e w9 hG;obtain⟨HE,jL,iC,n9,he⟩:=H6.o.fell hG;unfold iT at he;subst he;clear hG;go_wp2;exact⟨rfl,by rw[HD.o];exact HE.o⟩
end
def EZ:ObP:=fun _ _ _ _=>True
theorem nJ:Er EZ:=⟨fun _ _ _=>trivial,fun _ _=>trivial⟩
def Ms:Nat->Prop:=fun _=>False
theorem zR.Xz {w w':World}{g:Nat}{s:Sr.Sh}{r:Tu.zk}{e:Ending}(h:zR EZ Ms w g (s,r) e w'):Lf w r e w':=by
 obtain⟨⟨ao,cap,n,he,hn,hO⟩,_,hT⟩:=h;exact⟨ao,cap,n,he,hn,hO,hT.below (fun _ e=>e.elim) (aM _)⟩
theorem aa8 (w:World)(oa:Obj):jv EZ Ms w 0 [oa] Sr.new (fun k=>Ms k∧k<w.heap.size) (w.alloc oa) :=
 (jv.start (O:=EZ) (S:=Ms) (g:=0) (s:=Sr.new) nJ trivial).box nJ rfl (fun _ e=>e.1.elim) _
theorem aeS (w:World)(oa ob:Obj):jv EZ Ms w 0 [oa,ob] Sr.new (fun k=>Ms k∧k<w.heap.size) ((w.alloc oa).alloc ob):=by
 have hz:(w.alloc oa).heap.size=w.heap.size+1:=fZ ..;exact(aa8 w oa).box nJ hz (fun _ e=>e.1.elim) _
theorem JN (w:World)(hP:nA w):Calls prog 84 #[] w fun e w'=>Lf w (Tu.said 204 [(Tu.yg,Tu.jP),(Tu.Vo,Tu.vT),(Tu.Vp,Tu.Vq)]) e w':=by
 have H1:=H9 (aa8 w (.cells #[.int .i64 0,.slice none 0 0,.slice none 0 0] 88));have HB1:=H9 ((fJ _ w).alloc (aM _) (.cells #[.int .i64 0,.slice none 0 0,.slice none 0 0] 88));have XA:=H9 (kF Tu.yg Tu.jP (w.alloc (.cells #[.int .i64 0,.slice none 0 0,.slice none 0 0] 88)));have IE:=H9 hP;clear hP;unfold Tu.yg Tu.jP at XA;go_enter func84,ntmps84;go_wp2_with fail
 refine XA.o.mono ?_;rintro e w2 ⟨rfl,hw2⟩;have H2:=H9 (H1.o.stay nJ hw2);have HB2:=H9 (then_ HB1.o hw2);have Cr:=H9 (oO Tu.Vo 2000 2000 rfl (by decide) w2 (IE.o.stay HB2.o));rw[show Tu.dec 2000=Tu.vT from by decide +kernel] at Cr;unfold Tu.Vo Tu.vT at Cr;clear hw2 XA H1 HB1;go_wp2_with fail
 refine Cr.o.mono ?_;rintro e w3 ⟨rfl,hw3⟩;have H3:=H9 (H2.o.stay nJ hw3);have HF3:=H9 (kF Tu.Vp Tu.Vq w3);unfold Tu.Vp Tu.Vq at HF3;clear hw3 Cr H2 HB2;go_wp2_with fail
 refine HF3.o.mono ?_;rintro e w4 ⟨rfl,hw4⟩;have H4:=H9 ((H3.o.stay nJ hw4).stay nJ ((fJ _ w4).alloc (aM _) (.cells #[.string Tu.yg,.string Tu.jP,.string Tu.Vo,.string Tu.vT,.string Tu.Vp,.string Tu.Vq] 111)));have Bg:=H9 (jZ 204 204 rfl [(Tu.yg,Tu.jP),(Tu.Vo,Tu.vT),(Tu.Vp,Tu.Vq)] (some ⟨w4.heap.size,0,none⟩) 3 3 _ (jo.made w4 #[.string Tu.yg,.string Tu.jP,.string Tu.Vo,.string Tu.vT,.string Tu.Vp,.string Tu.Vq] 3 111 (0,0)) rfl (by decide));unfold Tu.yg Tu.jP Tu.Vo Tu.vT Tu.Vp Tu.Vq at Bg H4;clear hw4 HF3 H3;go_wp2_with fail
 refine Bg.o.mono ?_;rintro e w9 ⟨jL,iC,n9,rfl,lu,jU,oC⟩;obtain⟨⟨z0,z1,z2,y0,y1,y2⟩,HE⟩:=H4.o.ends nJ (i:=0) rfl (b:=w.heap.size) (by first | rfl | omega) (st:=204) (mF:=204) rfl lu (dG (dJ _ _) H4.o.sz) jU oC;clear lu jU oC;go_wp2;generalize (((w9.setCell ⟨w.heap.size,0,none⟩ (.int .i64 204)).setCell ⟨w.heap.size,1,none⟩ (.slice jL n9 iC)).setCell ⟨w.heap.size,2,none⟩ (.slice none 0 0))=wf at *;obtain⟨q0,q1,q2,q3⟩:=HE.o;refine gy (v:=.agg #[.int .i64 204,.slice jL n9 iC,.slice none 0 0]) (by simp[results,results84,go_sem,q0,q1,q2]) rfl ?_;exact zR.Xz (r:=Tu.said 204 [(Tu.yg,Tu.jP),(Tu.Vo,Tu.vT),(Tu.Vp,Tu.Vq)]) q3
theorem yE (u:Sp.Up)(uo:ak)(un ji:Nat)(hun:u.bytes.length=un)(hs0:-1<=u.size)(hs1:u.size<=2000)(UR:un<=2000)(w:World)(hP:nA w):
 Calls prog 90 #[.agg #[.int .i64 u.id,.int .i64 u.size,.string u.note,.slice uo un ji,.int .i64 u.sent]] w fun e w'=>Lf w (Tu.head u) e w':=by
 have T2:=aeS w (.cells #[.int .i64 u.id,.int .i64 u.size,.string u.note,.slice uo un ji,.int .i64 u.sent] 101) (.cells #[.int .i64 0,.slice none 0 0,.slice none 0 0] 88);have HC:Hid (∀W s' S',jv EZ Ms w 0 [.cells #[.int .i64 u.id,.int .i64 u.size,.string u.note,.slice uo un ji,.int .i64 u.sent] 101 (0,0),.cells #[.int .i64 0,.slice none 0 0,.slice none 0 0] 88 (0,0)] s' S' W->W.cell? ⟨w.heap.size,1,none⟩=some (.int .i64 u.size)∧W.cell? ⟨w.heap.size,2,none⟩=some (.string u.note)∧W.cell? ⟨w.heap.size,3,none⟩=some (.slice uo un ji)):=fun W s' S' hW=>by
  have r:=hW.row 0 rfl;exact⟨fK W _ 1 _ _ _ r,fK W _ 2 _ _ _ r,fK W _ 3 _ _ _ r⟩
 obtain⟨x1,x2,x3⟩:=HC.o _ _ _ T2;have HB2:Hid (aj w ((w.alloc (.cells #[.int .i64 u.id,.int .i64 u.size,.string u.note,.slice uo un ji,.int .i64 u.sent] 101)).alloc (.cells #[.int .i64 0,.slice none 0 0,.slice none 0 0] 88))):=then_ ((fJ _ w).alloc (aM _) _) ((fJ _ _).alloc (aM _) _);have H2:=H9 T2;have IE:=H9 hP;have HUn:=H9 hun;clear T2 hun;obtain⟨sv,hcnt,hsv⟩:∃sv:ay,Hid (∀W,aj w W->Calls prog 116 #[.string Tu.Dw,.int .i64 u.size] W fun e w'=>e=.returned (.agg #[.string Tu.Dw,.string sv])∧aj W w')∧(0<=u.size->sv=Tu.dec u.size.toNat):=by
  by_cases h0:0<=u.size
  . exact⟨_,fun W hW=>oO Tu.Dw u.size.toNat u.size (by omega) (by omega) W (hP.stay hW),fun _=>rfl⟩
  . have e1:u.size=-1:=by omega
    rw[e1];refine⟨⟨(Lib.itoa (-1)).toArray⟩,fun W hW=>?_,fun e=>absurd e (by omega)⟩;refine Ij Tu.Dw _ (-1) W (fun W2 hW2=>?_);refine(Any.strconv_Itoa Tryz.lays171 (-1) (by decide) (by decide) W2 (hP.stay (then_ hW hW2))).mono ?_;rintro e w' ⟨he,k,os,rfl⟩;exact⟨he,Lib.below_grow _ W2 (aM _) k os⟩
 have M8:=H9 (hcnt.out _ HB2.o);unfold Tu.Dw at M8;clear hcnt hP;obtain⟨pn,pv,hpp⟩:∃pn pv:ay,(pn,pv)=(if u.size<0 then (Tu.Dx,Tu.yL) else (Tu.Dw,Tu.dec u.size.toNat)):=⟨_,_,rfl⟩;obtain⟨R,hR⟩:∃R,R=Tu.head u:=⟨_,rfl⟩;rw[<-hR];have HD:Hid (R=Tu.said 200 ((Tu.vE,Tu.dec un)::(pn,pv)::(Tu.Nk,Tu.Nl)::(if u.note.size=0 then [] else [(Tu.MW,u.note)]))):=by
  unfold Hid;rw[hR];unfold Tu.head;rw[<-hpp,HUn.o]
 have J8:Hid ((pn,pv)=(if u.size<0 then (Tu.Dx,Tu.yL) else (Tu.Dw,Tu.dec u.size.toNat))):=hpp;have HSv:=H9 hsv;clear hR hpp hsv;go_enter func90,ntmps90;go_wp2_with fail
 refine M8.o.mono ?_;rintro e w3 ⟨rfl,hw3⟩;have H3:=H9 (H2.o.stay nJ hw3);have HB3:=H9 (then_ HB2.o hw3);clear hw3 M8 H2 HB2 x1 x2 x3;have hb4:=(fJ _ w3).alloc (aM _) (.cells #[.string Tu.Dw,.string sv] 111);have H4:=H9 (H3.o.stay nJ hb4);have jK:=H9 (then_ HB3.o hb4);have HR4:Hid ((w3.alloc (.cells #[.string Tu.Dw,.string sv] 111)).heap[w3.heap.size]? = some (.cells #[.string Tu.Dw,.string sv] 111 (0,0))):=fI w3 _;have HZ4:Hid (w.heap.size+2<=w3.heap.size):=H3.o.sz;obtain⟨x1,x2,x3⟩:=HC.o _ _ _ H4.o;unfold Tu.Dw at H4 jK HR4;unfold Tu.Dw at x1 x2 x3;clear hb4 H3 HB3;go_upto_region 2 with fail
 generalize (w3.alloc (.cells #[.string ⟨#[85,112,108,111,97,100,45,76,101,110,103,116,104]⟩,.string sv] 111))=w4 at *;generalize w3.heap.size=kb at *;obtain⟨bn,hbn⟩:∃b,(u.size==-1)=b:=⟨_,rfl⟩;have HBn:Hid (bn=true<->u.size<0):=by
  unfold Hid;rw[<-hbn,aT];omega
 go_upto_if 10 with fail
 go_cut [11] (fun _ wd=>jv EZ Ms w 0 [.cells #[.int .i64 u.id,.int .i64 u.size,.string u.note,.slice uo un ji,.int .i64 u.sent] 101 (0,0),.cells #[.int .i64 0,.slice none 0 0,.slice none 0 0] 88 (0,0)] Sr.new (fun k=>Ms k∧k<w.heap.size) wd∧aj w wd∧wd.heap[kb]? = some (.cells #[.string pn,.string pv] 111 (0,0)))
 case first =>
  cases bn with
  | true =>
    have oW:=H9 (kF Tu.Dx Tu.yL w4);have hpp:=J8.o;rw[if_pos (HBn.o.1 rfl)] at hpp;injection hpp with hp1 hp2;subst hp1;subst hp2;unfold Tu.Dx Tu.yL at oW;go_wp2_with fail
    refine oW.o.mono ?_;rintro e w5 ⟨rfl,JE⟩;have sj:=(JE.block kb (aL.1 HR4.o).1).trans HR4.o;have c0:=fK w5 _ 0 _ _ _ sj;have c1:=fK w5 _ 1 _ _ _ sj
    have y0:=fM w5 _ 0 _ _ sj;have y1:=fM w5 _ 1 _ _ sj
    simp at c0 c1;have O3:=ig kb [.string Tu.Dx,.string Tu.yL] 0 w5;have HX:Hid (jv EZ Ms w 0 [.cells #[.int .i64 u.id,.int .i64 u.size,.string u.note,.slice uo un ji,.int .i64 u.sent] 101 (0,0),.cells #[.int .i64 0,.slice none 0 0,.slice none 0 0] 88 (0,0)] Sr.new (fun k=>Ms k∧k<w.heap.size) ((w5.setCell ⟨kb,0,none⟩ (.string Tu.Dx)).setCell ⟨kb,1,none⟩ (.string Tu.yL))∧aj w ((w5.setCell ⟨kb,0,none⟩ (.string Tu.Dx)).setCell ⟨kb,1,none⟩ (.string Tu.yL))∧((w5.setCell ⟨kb,0,none⟩ (.string Tu.Dx)).setCell ⟨kb,1,none⟩ (.string Tu.yL)).heap[kb]? = some (.cells #[.string Tu.Dx,.string Tu.yL] 111 (0,0))):=by
     have hz:=HZ4.o;have hb:=then_ jK.o JE;exact⟨(H4.o.stay nJ JE).aside nJ O3 hz (fun e=>e.1.elim),(hb.setCell (p:=⟨kb,0,none⟩) (by show w.heap.size<=kb;omega) _).setCell (p:=⟨kb,1,none⟩) (by show w.heap.size<=kb;omega) _,fO _ _ 1 _ _ (.string Tu.yL) (fO _ _ 0 _ _ (.string Tu.Dx) sj)⟩
    unfold Tu.Dx Tu.yL at HX;clear JE sj O3 oW x1 x2 x3;go_wp2;go_meet;exact HX.o
  | false =>
    have hpp:=J8.o;rw[if_neg (fun e=>by have:=HBn.o.2 e;cases this)] at hpp;injection hpp with hp1 hp2;have hsv:=HSv.o (by
     rcases Int.lt_or_le u.size 0 with e | e
     . have:=HBn.o.2 e;cases this
     . exact e)
    rw[<-hp2] at hsv;subst hp1;subst hsv;go_wp2;go_meet;exact⟨H4.o,jK.o,HR4.o⟩
 case rest =>
  obtain⟨hT,hB,hr⟩:=hcut;have HT:=H9 hT;have HB:=H9 hB;have HR:=H9 hr
  have hkl:=(aL.1 hr).1;have M6:Hid (∀W,aj w W->Calls prog 116 #[.string Tu.vE,.int .i64 (un:Int)] W fun e w'=>e=.returned (.agg #[.string Tu.vE,.string (Tu.dec un)])∧aj W w'):=fun W hW=>oO Tu.vE un un rfl (by omega) W (IE.o.stay hW);have HFc:Hid (∀W,Calls prog 87 #[.string Tu.Nk,.string Tu.Nl] W fun e w'=>e=.returned (.agg #[.string Tu.Nk,.string Tu.Nl])∧aj W w'):=fun W=>kF Tu.Nk Tu.Nl W;have HSs:Hid (∀W,aj wc W->W.cell? ⟨w.heap.size,3,none⟩=some (.slice uo un ji)∧W.cell? ⟨kb,0,none⟩=some (.string pn)∧W.cell? ⟨kb,1,none⟩=some (.string pv)):=fun W hW=>by
   have hr':=(hW.block kb hkl).trans HR.o;exact⟨(HC.o _ _ _ (HT.o.stay nJ hW)).2.2,fK W _ 0 _ _ _ hr',fK W _ 1 _ _ _ hr'⟩
  generalize Tu.dec un=du at *;have WT:Hid (∀W,aj wc W->gV (W.alloc (.cells #[.string Tu.vE,.string du,.string pn,.string pv,.string Tu.Nk,.string Tu.Nl] 111)) (w.heap.size+2) 111 2 (some ⟨W.heap.size,0,none⟩) 3 3 (gU [(Tu.vE,du),(pn,pv),(Tu.Nk,Tu.Nl)])∧jv EZ Ms w 0 [.cells #[.int .i64 u.id,.int .i64 u.size,.string u.note,.slice uo un ji,.int .i64 u.sent] 101 (0,0),.cells #[.int .i64 0,.slice none 0 0,.slice none 0 0] 88 (0,0)] Sr.new (fun k=>Ms k∧k<w.heap.size) (W.alloc (.cells #[.string Tu.vE,.string du,.string pn,.string pv,.string Tu.Nk,.string Tu.Nl] 111))∧aj w (W.alloc (.cells #[.string Tu.vE,.string du,.string pn,.string pv,.string Tu.Nk,.string Tu.Nl] 111))):=fun W hW=>by
   have h1:=HT.o.stay nJ hW;have hba:=(fJ _ W).alloc (aM _) (.cells #[.string Tu.vE,.string du,.string pn,.string pv,.string Tu.Nk,.string Tu.Nl] 111);exact⟨gF W #[.string Tu.vE,.string du,.string pn,.string pv,.string Tu.Nk,.string Tu.Nl] 3 h1.sz (by decide) rfl,h1.stay nJ hba,then_ (then_ HB.o hW) hba⟩
  unfold Tu.vE at M6;unfold Tu.Nk Tu.Nl at HFc;obtain⟨s0,s1,s2⟩:=HSs.o _ (fJ _ _);have HbD:Hid (aj wc wc.drew):=gQ _ _;clear hT hB hr hkl H4 jK HR4 x1 x2 x3 J8 HSv HBn hbn;go_upto_region 4 with fail
  go_cut [4] (fun v4 wd=>∃(ao:ak) (cap:Nat),v4=.slice ao 3 cap∧gV wd (w.heap.size+2) 111 2 ao cap 3 (gU [(Tu.vE,du),(pn,pv),(Tu.Nk,Tu.Nl)])∧jv EZ Ms w 0 [.cells #[.int .i64 u.id,.int .i64 u.size,.string u.note,.slice uo un ji,.int .i64 u.sent] 101 (0,0),.cells #[.int .i64 0,.slice none 0 0,.slice none 0 0] 88 (0,0)] Sr.new (fun k=>Ms k∧k<w.heap.size) wd∧aj w wd)
  case first =>
   go_region_held3 (fun W=>W.cell? ⟨w.heap.size,3,none⟩=some (.slice uo un ji)∧W.cell? ⟨kb,0,none⟩=some (.string pn)∧W.cell? ⟨kb,1,none⟩=some (.string pv)) (go_keep) (first
    | (go_at_call 116;refine(M6.o _ (then_ HB.o (by first | with_reducible exact HbF.o | with_reducible exact HbD.o))).mono ?_;rintro e wC ⟨rfl,hC⟩;have hbC:=then_ (by first | with_reducible exact HbF.o | with_reducible exact HbD.o) hC;have HbC:=H9 hbC;obtain⟨a0,a1,a2⟩:=HSs.o _ hbC;clear hC hbC)
    | (go_at_call 87;refine(HFc.o _).mono ?_;rintro e wF ⟨rfl,hF⟩;have hbF:=then_ (by first | with_reducible exact HbC.o | with_reducible exact HbD.o) hF;have HbF:=H9 hbF;obtain⟨a0,a1,a2⟩:=HSs.o _ hbF;clear hF hbF))
   all_goals
    go_wp2;go_meet;first
     | exact⟨_,_,rfl,WT.o _ HbF.o⟩
     | exact⟨_,_,rfl,WT.o _ HbC.o⟩
  case rest =>
   obtain⟨ao,cap,rfl,hO,hT,hB⟩:=hcut;have H5:=H9 hT;have qY:=H9 hB;have tH:=H9 hO
   clear hO hT hB WT HbD s0 s1 s2 HSs M6 HFc HT HB HR;obtain⟨x1,x2,x3⟩:=HC.o _ _ _ H5.o;obtain⟨bm,hbm⟩:∃b,(u.note.toList==([]:av))=b:=⟨_,rfl⟩;have eM:u.note.size=0<->bm=true:=by
    rw[<-hbm,aT,Lib.toList_data];rw[<-dK,aO];exact Iff.rfl
   cases bm with
   | true =>
     rw[if_pos (eM.2 rfl)] at HD;have Bg:=H9 (jZ 200 200 rfl [(Tu.vE,du),(pn,pv),(Tu.Nk,Tu.Nl)] ao cap 3 wc tH.o.nQ rfl (by decide));clear eM HC;go_wp2_with fail
     refine Bg.o.mono ?_;rintro e w9 ⟨jL,iC,n9,rfl,lu,jU,oC⟩;obtain⟨⟨z0,z1,z2,y0,y1,y2⟩,HE⟩:=H5.o.ends nJ (i:=1) rfl (b:=w.heap.size+1) (by first | rfl | omega) (st:=200) (mF:=200) rfl lu (dG (dJ _ _) H5.o.sz) jU oC;clear lu jU oC;go_wp2;generalize (((w9.setCell ⟨w.heap.size+1,0,none⟩ (.int .i64 200)).setCell ⟨w.heap.size+1,1,none⟩ (.slice jL n9 iC)).setCell ⟨w.heap.size+1,2,none⟩ (.slice none 0 0))=wf at *;obtain⟨q0,q1,q2,q3⟩:=HE.o;refine gy (v:=.agg #[.int .i64 200,.slice jL n9 iC,.slice none 0 0]) (by simp[results,results90,go_sem,q0,q1,q2]) rfl ?_;rw[HD.o];exact zR.Xz q3
   | false =>
     rw[if_neg (fun e=>by have:=eM.1 e;cases this)] at HD;obtain⟨i0,hi0,hz0,hz1,hz2⟩:=info_parts rU;have Hi:=H9 hi0;have kK:=H9 hz0;have kH:=H9 hz1;have kL:=H9 hz2
     have HFm:=H9 (kF Tu.MW u.note wc);unfold Tu.MW at HFm;clear eM HC hi0 hz0 hz1 hz2;go_wp2_with fail
     refine HFm.o.mono ?_;rintro e w6 ⟨rfl,hw6⟩;have hba:=(fJ _ w6).alloc (aM _) (.cells #[.string Tu.MW,.string u.note] 111);have H6:=H9 ((H5.o.stay nJ hw6).stay nJ hba);have yu:=H9 ((tH.o.stay hw6).alloc (.cells #[.string Tu.MW,.string u.note] 111));have HZ6:Hid (w.heap.size+2<=(w6.alloc (.cells #[.string Tu.MW,.string u.note] 111)).heap.size):=H6.o.sz;have HP6:Hid (∀(ao7:ak) (Jv:Nat) (w7:World),(w6.alloc (.cells #[.string Tu.MW,.string u.note] 111)).grownBy w7 (gL ao)->jv EZ Ms w 0 [.cells #[.int .i64 u.id,.int .i64 u.size,.string u.note,.slice uo un ji,.int .i64 u.sent] 101 (0,0),.cells #[.int .i64 0,.slice none 0 0,.slice none 0 0] 88 (0,0)] Sr.new (fun k=>Ms k∧k<w.heap.size) w7):=fun ao7 Jv w7 hG=>by
      cases ao with
      | none=>exact H6.o.stay nJ ((fJ _ _).grown hG (aM _) (fun q e=>by cases e))
      | some a =>
        have hab:=(yu.o.block a rfl).1;exact H6.o.aside nJ (b:=a.block) (Turns.iZ hG (fun k e=>by injection e with e;exact e.symm)) hab (fun e=>e.1.elim)
     unfold Tu.MW at H6 yu HZ6 HP6;clear hw6 hba HFm H5 tH x1 x2 x3;go_wp2_with (at_builtin;refine gT rfl (.tmp 22) (.tmp 26) 66 rfl (w.heap.size+2) 111 i0 (.agg #[.string ⟨#[]⟩,.string ⟨#[]⟩]) 2 32 underlying66 Hi.o kK.o kH.o kL.o rfl (by decide) rfl yu.o rfl (jo.made w6 _ 1 _ _) rfl (NY _ _) (by decide) (by decide) HZ6.o ?_;intro ao7 Jv w7 hO7 ZV _;have H7:=H9 (HP6.o ao7 Jv w7 ZV);have Bg:=H9 (jZ 200 200 rfl [(Tu.vE,du),(pn,pv),(Tu.Nk,Tu.Nl),(Tu.MW,u.note)] ao7 Jv 4 w7 hO7.nQ rfl (by decide));clear hO7 ZV HP6 yu H6 HZ6)
     refine Bg.o.mono ?_;rintro e w9 ⟨jL,iC,n9,rfl,lu,jU,oC⟩;obtain⟨⟨z0,z1,z2,y0,y1,y2⟩,HE⟩:=H7.o.ends nJ (i:=1) rfl (b:=w.heap.size+1) (by first | rfl | omega) (st:=200) (mF:=200) rfl lu (dG (dJ _ _) H7.o.sz) jU oC;clear lu jU oC;go_wp2;generalize (((w9.setCell ⟨w.heap.size+1,0,none⟩ (.int .i64 200)).setCell ⟨w.heap.size+1,1,none⟩ (.slice jL n9 iC)).setCell ⟨w.heap.size+1,2,none⟩ (.slice none 0 0))=wf at *;obtain⟨q0,q1,q2,q3⟩:=HE.o;refine gy (v:=.agg #[.int .i64 200,.slice jL n9 iC,.slice none 0 0]) (by simp[results,results90,go_sem,q0,q1,q2]) rfl ?_;rw[HD.o];exact zR.Xz q3
section
variable {g:Nat} {m t:ay} {mi ln:Int} {l:au} {fo:ak} {gM nf:Nat} {bo:ak} {gK nb:Nat} {w w0:World} {S:Nat->Prop} {s:Sr.Sh}
theorem Mt (p:wS w0 w S)(h:iI w S g s)(ok:Sr.Ok s)(hF:pX w l fo gM nf):
 Calls prog 88 #[.agg #[.pointer (some ⟨g,0,none⟩),.string m,.string t,.int .i64 mi,.slice fo nf gM,.int .i64 ln,.slice bo nb gK]] w fun e w'=>lU S w g (Tu.post s m l) e w':=by
 have T2:jv iI S w g [.cells #[.pointer (some ⟨g,0,none⟩),.string m,.string t,.int .i64 mi,.slice fo nf gM,.int .i64 ln,.slice bo nb gK] 123 (0,0),.cells #[.int .i64 0,.slice none 0 0,.slice none 0 0] 88 (0,0)] s (fun k=>S k∧k<w.heap.size) ((w.alloc (.cells #[.pointer (some ⟨g,0,none⟩),.string m,.string t,.int .i64 mi,.slice fo nf gM,.int .i64 ln,.slice bo nb gK] 123)).alloc (.cells #[.int .i64 0,.slice none 0 0,.slice none 0 0] 88)):=QL h _;have HB2:Hid (aj w ((w.alloc (.cells #[.pointer (some ⟨g,0,none⟩),.string m,.string t,.int .i64 mi,.slice fo nf gM,.int .i64 ln,.slice bo nb gK] 123)).alloc (.cells #[.int .i64 0,.slice none 0 0,.slice none 0 0] 88))):=then_ ((fJ _ w).alloc (aM _) _) ((fJ _ _).alloc (aM _) _);have HC:Hid (∀W s' S',jv iI S w g [.cells #[.pointer (some ⟨g,0,none⟩),.string m,.string t,.int .i64 mi,.slice fo nf gM,.int .i64 ln,.slice bo nb gK] 123 (0,0),.cells #[.int .i64 0,.slice none 0 0,.slice none 0 0] 88 (0,0)] s' S' W->W.cell? ⟨w.heap.size,0,none⟩=some (.pointer (some ⟨g,0,none⟩))∧W.cell? ⟨w.heap.size,1,none⟩=some (.string m)∧W.cell? ⟨w.heap.size,2,none⟩=some (.string t)∧W.cell? ⟨w.heap.size,3,none⟩=some (.int .i64 mi)∧W.cell? ⟨w.heap.size,4,none⟩=some (.slice fo nf gM)∧W.cell? ⟨w.heap.size,5,none⟩=some (.int .i64 ln)∧W.cell? ⟨w.heap.size,6,none⟩=some (.slice bo nb gK)):=fun W s' S' hW=>hW.ex;obtain⟨x0,x1,x2,x3,x4,x5,x6⟩:=HC.o _ _ _ T2;have H2:=H9 T2;have HF:=H9 hF;have qy:=H9 ok;have IE:=H9 p
 clear T2 hF ok p h;obtain⟨R,hR⟩:∃R,R=Tu.post s m l:=⟨_,rfl⟩;rw[<-hR];unfold Tu.post at hR;have HD:=H9 hR;clear hR;obtain⟨bp,hbp⟩:∃b,(m.toList==([80,79,83,84]:av))=b:=⟨_,rfl⟩;have eP:m=Tu.GV<->bp=true:=by rw[<-hbp];exact Tu.Yq m Tu.GV _ rfl
 go_enter func88,ntmps88;cases bp with
 | false =>
   rw[if_pos (fun e=>by have:=eP.1 e;cases this)] at HD;go_wp2_with fail
   refine(iW 405 405 rfl _).mono ?_;rintro e w9 hG;obtain⟨HE,jL,iC,n9,he⟩:=H2.o.fell hG;unfold iT at he;subst he;clear hG;go_wp2;exact⟨rfl,by rw[HD.o];exact HE.o⟩
 | true =>
   rw[if_neg (fun e=>e (eP.2 rfl))] at HD;clear eP;go_wp2_with fail
   refine(iR 405 none 0 0 _).mono ?_;rintro e wq ⟨rfl,hw⟩;rw[hw];clear hw;cases hnn:(Tu.jB (Tu.one (Tu.vals Tu.Dv l))).2 with
   | false =>
     rw[if_pos hnn] at HD;have CO:=H9 (Sw (g:=g) (m:=m) (t:=t) (mi:=mi) (ln:=ln) (bo:=bo) (gK:=gK) (nb:=nb) (HF.o.stay HB2.o) hnn);clear hnn;go_wp2_with fail
     refine(CO.o).mono ?_;rintro e w9 hG;obtain⟨HE,jL,iC,n9,he⟩:=H2.o.fell hG;unfold iT at he;subst he;clear hG;go_wp2;exact⟨rfl,by rw[HD.o];exact HE.o⟩
   | true =>
     rw[if_neg (by rw[hnn];simp)] at HD;obtain⟨hsz1,hsz2⟩:=Sy (g:=g) (m:=m) (t:=t) (mi:=mi) (ln:=ln) (bo:=bo) (gK:=gK) (nb:=nb) (HF.o.stay HB2.o) hnn;clear hnn;by_cases hbad:Tu.xP l
     . have CO:=H9 (hsz1 hbad);unfold Tu.xP at hbad;rw[if_pos hbad] at HD;clear hsz1 hsz2 hbad;go_wp2_with fail
       refine(CO.o).mono ?_;rintro e w9 hG;obtain⟨HE,jL,iC,n9,he⟩:=H2.o.fell hG;unfold iT at he;subst he;clear hG;go_wp2;exact⟨rfl,by rw[HD.o];exact HE.o⟩
     . have CO:=H9 (hsz2 hbad);unfold Tu.xP at hbad;rw[if_neg hbad] at HD;clear hsz1 hsz2 hbad;generalize (Tu.jB (Tu.one (Tu.vals Tu.Dv l))).1=n at *;go_wp2_with fail
       refine CO.o.mono ?_;rintro e w3 ⟨rfl,hw3⟩;have HB3:=H9 (then_ HB2.o hw3);have H3:=H9 (H2.o.stay iK hw3);clear hw3 CO x0 x1 x2 x3 x4 x5 x6;obtain⟨x0,x1,x2,x3,x4,x5,x6⟩:=HC.o _ _ _ H3.o;have hzm:=HF.o.val Tu.nUM;generalize hvm:Tu.one (Tu.vals Tu.nUM l)=rm at *;obtain⟨vm,cm⟩:=rm;simp only at hzm HD;by_cases hm9:cm=9
       . subst hm9;rw[if_pos rfl] at HD;have HT:=H9 (rV (g:=g) (m:=m) (t:=t) (mi:=mi) (ln:=ln) (bo:=bo) (gK:=gK) (nb:=nb) Tu.MW (by decide) (HF.o.stay HB3.o) (by rw[Tu.Li];exact hvm));unfold Tu.MW at HT;clear hvm hzm;go_wp2_with fail
         refine(HT.o).mono ?_;rintro e w9 hG;obtain⟨HE,jL,iC,n9,he⟩:=H3.o.fell hG;unfold iT at he;subst he;clear hG;go_wp2;exact⟨rfl,by rw[HD.o];exact HE.o⟩
       . rw[if_neg hm9] at HD;have HT:=H9 (oP (g:=g) (m:=m) (t:=t) (mi:=mi) (ln:=ln) (bo:=bo) (gK:=gK) (nb:=nb) Tu.MW (by decide) (HF.o.stay HB3.o) (by rw[Tu.Li];exact hvm) hm9);unfold Tu.MW at HT;clear hvm hm9;generalize decide (cm=0)=cb at *;have hzz:(Sr.Yo vm).size<=1000000:=by rw[Sr.Vg];omega
         rw[show(⟨vm.toArray⟩:ay)=Sr.Yo vm from rfl] at HT;have EX:Hid ((Sr.create s n (Sr.Yo vm)).2≠0->(Sr.create s n (Sr.Yo vm)).1=s):=fun e=>by unfold Sr.create at e ⊢;exact Tu.oK e
         generalize Sr.Yo vm=mb at *;clear hzm;go_wp2_with fail
         refine HT.o.mono ?_;rintro e w4 ⟨rfl,hw4⟩;have jK:=H9 (then_ HB3.o hw4);have H4:=H9 (H3.o.stay iK hw4);clear hw4 HT H3 x0 x1 x2 x3 x4 x5 x6;obtain⟨x0,x1,x2,x3,x4,x5,x6⟩:=HC.o _ _ _ H4.o;have UU:=H9 (Ad H4.o.sh qy.o n mb hzz);clear hzz;go_wp2_with fail
         refine UU.o.mono ?_;rintro e w5 ⟨rfl,hat,hT⟩;have H5:=H9 (H4.o.did hat hT);clear hat hT UU H4 x0 x1 x2 x3 x4 x5 x6;generalize Sr.create s n mb=ra at *;obtain⟨sa,ca⟩:=ra;simp only at HD EX H5 ⊢;obtain⟨x0,x1,x2,x3,x4,x5,x6⟩:=HC.o _ _ _ H5.o;by_cases hca:ca=0
         . subst hca;rw[if_neg (by simp)] at HD;have acJ:=qy.o.h.Dn;have acK:=qy.o.Km;have Lx:Sr.Du s 0=s.h.last+1:=by unfold Sr.Du;rw[if_pos rfl]
           rw[Lx];clear Lx;have HIt:Hid (∀W,nA W->Calls prog 122 #[.int .i64 (s.h.last+1)] W fun e w'=>e=.returned (.string (Tu.dec (s.h.last+1).toNat))∧aj W w'):=fun W hW=>by
            have:=uf (s.h.last+1).toNat (by omega) W hW;rw[show(((s.h.last+1).toNat:Nat):Int)=s.h.last+1 from by omega] at this;exact this
           have hdz:(Tu.dec (s.h.last+1).toNat).size<=9:=by
            show(Ch.jH 8 _).toArray.size<=9;rw[bM];have:=Ch.jX 8 (s.h.last+1).toNat;omega
           generalize Tu.dec (s.h.last+1).toNat=db at *;generalize s.h.last+1=lid at *;clear acJ acK;go_wp2_with fail
           refine(qJ _).mono ?_;rintro e wq ⟨rfl,hw⟩;rw[hw];clear hw;have J9:=H9 (oU H5.o.sh);go_wp2_with fail
           refine J9.o.mono ?_;rintro e w6 ⟨rfl,wO,qZ⟩;have H6:=H9 (H5.o.turned wO qZ);clear wO qZ J9 H5 x0 x1 x2 x3 x4 x5 x6;have HI6:=H9 (HIt.o w6 (H6.o.pow IE.o));go_wp2_with fail
           refine HI6.o.mono ?_;rintro e w7 ⟨rfl,hw7⟩;have H7:=H9 (H6.o.stay iK hw7);clear hw7 HI6 HIt H6;have oW:=H9 (kF Tu.fLo (Tu.lI++db) w7);unfold Tu.fLo Tu.lI at oW;go_wp2_with fail
           refine oW.o.mono ?_;rintro e w8 ⟨rfl,hw8⟩;have H8:=H9 ((H7.o.stay iK hw8).stay iK ((fJ _ w8).alloc (aM _) (.cells #[.string Tu.fLo,.string (Tu.lI++db)] 111)));have Bg:=H9 (jZ 201 201 rfl [(Tu.fLo,Tu.lI++db)] (some ⟨w8.heap.size,0,none⟩) 1 1 _ (jo.made w8 #[.string Tu.fLo,.string (Tu.lI++db)] 1 111 (0,0)) rfl (by decide));unfold Tu.fLo Tu.lI at Bg H8;clear hw8 oW H7;go_wp2_with fail
           refine Bg.o.mono ?_;rintro e w9 ⟨jL,iC,n9,rfl,lu,jU,oC⟩;obtain⟨⟨z0,z1,z2,y0,y1,y2⟩,HE⟩:=H8.o.ends iK (i:=1) rfl (b:=w.heap.size+1) (by first | rfl | omega) (st:=201) (mF:=201) rfl lu (dG (dJ _ _) H8.o.sz) jU oC;clear lu jU oC;go_wp2;generalize (((w9.setCell ⟨w.heap.size+1,0,none⟩ (.int .i64 201)).setCell ⟨w.heap.size+1,1,none⟩ (.slice jL n9 iC)).setCell ⟨w.heap.size+1,2,none⟩ (.slice none 0 0))=wf at *;obtain⟨q0,q1,q2,q3⟩:=HE.o;refine gy (v:=.agg #[.int .i64 201,.slice jL n9 iC,.slice none 0 0]) (by simp[results,results88,go_sem,q0,q1,q2]) rfl ?_;rw[HD.o];exact lU.of q3
         . rw[if_pos hca] at HD;have hsa:=EX.o hca;subst hsa;have HNd:=H9 (sP ca hca w5);clear hca EX;generalize Sr.Du sa ca=nn at *;go_wp2_with fail
           refine(HNd.o).mono ?_;rintro e w9 hG;obtain⟨HE,jL,iC,n9,he⟩:=H5.o.fell hG;unfold iT at he;subst he;clear hG;go_wp2;exact⟨rfl,by rw[HD.o];exact HE.o⟩
end
section
variable {g:Nat} {m t:ay} {mi ln:Int} {l:au} {fo:ak} {gM nf:Nat} {bo:ak} {gK nb:Nat} {w w0:World} {S:Nat->Prop} {s:Sr.Sh}
theorem jv.pw {O:ObP}{S':Nat->Prop}{bs:List Obj}{W:World}(h:jv O S w g bs s S' W)(p:wS w0 w S):wS w0 W S' :=
 ⟨p.pow, p.vN.trans (h.tu.below (fun k e => p.far k e.1) p.vN.size), fun k e => by
  have hz:=p.vN.size;rcases h.ap k e with h2 | h2
  . exact p.far k h2.1
  . omega⟩
theorem O7 (p:wS w0 w S)(h:iI w S g s)(ok:Sr.Ok s)(hF:pX w l fo gM nf)(body:av)(hb:body.length=nb)(hB:iH w bo gK body)(hnb:nb<=100000)(ht:t.size<=100000):
 Calls prog 51 #[.agg #[.pointer (some ⟨g,0,none⟩),.string m,.string t,.int .i64 mi,.slice fo nf gM,.int .i64 ln,.slice bo nb gK]] w fun e w'=>lU S w g (Tu.iG s m t l body) e w':=by
 have T2:jv iI S w g [.cells #[.pointer (some ⟨g,0,none⟩),.string m,.string t,.int .i64 mi,.slice fo nf gM,.int .i64 ln,.slice bo nb gK] 123 (0,0),.cells #[.int .i64 0,.slice none 0 0,.slice none 0 0] 88 (0,0)] s (fun k=>S k∧k<w.heap.size) ((w.alloc (.cells #[.pointer (some ⟨g,0,none⟩),.string m,.string t,.int .i64 mi,.slice fo nf gM,.int .i64 ln,.slice bo nb gK] 123)).alloc (.cells #[.int .i64 0,.slice none 0 0,.slice none 0 0] 88)):=QL h _;have HB2:Hid (aj w ((w.alloc (.cells #[.pointer (some ⟨g,0,none⟩),.string m,.string t,.int .i64 mi,.slice fo nf gM,.int .i64 ln,.slice bo nb gK] 123)).alloc (.cells #[.int .i64 0,.slice none 0 0,.slice none 0 0] 88))):=then_ ((fJ _ w).alloc (aM _) _) ((fJ _ _).alloc (aM _) _);have HC:Hid (∀W s' S',jv iI S w g [.cells #[.pointer (some ⟨g,0,none⟩),.string m,.string t,.int .i64 mi,.slice fo nf gM,.int .i64 ln,.slice bo nb gK] 123 (0,0),.cells #[.int .i64 0,.slice none 0 0,.slice none 0 0] 88 (0,0)] s' S' W->W.cell? ⟨w.heap.size,0,none⟩=some (.pointer (some ⟨g,0,none⟩))∧W.cell? ⟨w.heap.size,1,none⟩=some (.string m)∧W.cell? ⟨w.heap.size,2,none⟩=some (.string t)∧W.cell? ⟨w.heap.size,3,none⟩=some (.int .i64 mi)∧W.cell? ⟨w.heap.size,4,none⟩=some (.slice fo nf gM)∧W.cell? ⟨w.heap.size,5,none⟩=some (.int .i64 ln)∧W.cell? ⟨w.heap.size,6,none⟩=some (.slice bo nb gK)):=fun W s' S' hW=>hW.ex;obtain⟨x0,x1,x2,x3,x4,x5,x6⟩:=HC.o _ _ _ T2;have H2:=H9 T2;have HF:=H9 hF;have qy:=H9 ok;have IE:=H9 p;have EC:=H9 hB;have UN:=H9 hb
 clear T2 hF ok p h hB hb;obtain⟨R,hR⟩:∃R,R=Tu.iG s m t l body:=⟨_,rfl⟩;rw[<-hR];unfold Tu.iG at hR;have HD:=H9 hR;clear hR;obtain⟨bf,hbf⟩:∃b,(t.toList==([47,102,105,108,101,115]:av))=b:=⟨_,rfl⟩;have eF:t=Tu.sZ<->bf=true:=by rw[<-hbf];exact Tu.Yq t Tu.sZ _ rfl
 obtain⟨bo_,aiC⟩:∃b,(m.toList==([79,80,84,73,79,78,83]:av))=b:=⟨_,rfl⟩;have eO:m=Tu.abA<->bo_=true:=by rw[<-aiC];exact Tu.Yq m Tu.abA _ rfl
 go_enter func51,ntmps51;cases bf with
 | true =>
   have HTf:=H9 (eF.2 rfl);cases bo_ with
   | true =>
     rw[if_pos ⟨eF.2 rfl,eO.2 rfl⟩] at HD;have HOp:Hid (Calls prog 84 #[] ((w.alloc (.cells #[.pointer (some ⟨g,0,none⟩),.string m,.string t,.int .i64 mi,.slice fo nf gM,.int .i64 ln,.slice bo nb gK] 123)).alloc (.cells #[.int .i64 0,.slice none 0 0,.slice none 0 0] 88)) fun e w'=>∃(ao:ak) (cap k:Nat),e=.returned (.agg #[.int .i64 204,.slice ao k cap,.slice none 0 0])∧(Tu.said 204 [(Tu.yg,Tu.jP),(Tu.Vo,Tu.vT),(Tu.Vp,Tu.Vq)]).2.length=k∧gV w' ((w.alloc (.cells #[.pointer (some ⟨g,0,none⟩),.string m,.string t,.int .i64 mi,.slice fo nf gM,.int .i64 ln,.slice bo nb gK] 123)).alloc (.cells #[.int .i64 0,.slice none 0 0,.slice none 0 0] 88)).heap.size 111 2 ao cap k (gU (Tu.said 204 [(Tu.yg,Tu.jP),(Tu.Vo,Tu.vT),(Tu.Vp,Tu.Vq)]).2)∧Below ((w.alloc (.cells #[.pointer (some ⟨g,0,none⟩),.string m,.string t,.int .i64 mi,.slice fo nf gM,.int .i64 ln,.slice bo nb gK] 123)).alloc (.cells #[.int .i64 0,.slice none 0 0,.slice none 0 0] 88)).heap.size ((w.alloc (.cells #[.pointer (some ⟨g,0,none⟩),.string m,.string t,.int .i64 mi,.slice fo nf gM,.int .i64 ln,.slice bo nb gK] 123)).alloc (.cells #[.int .i64 0,.slice none 0 0,.slice none 0 0] 88)) w'):=JN _ (H2.o.pow IE.o);clear eF eO;go_wp2_with fail
     refine HOp.o.mono ?_;rintro e w9 ⟨jL,iC,n9,rfl,lu,jU,oC⟩;obtain⟨⟨z0,z1,z2,y0,y1,y2⟩,HE⟩:=H2.o.ends iK (i:=1) rfl (b:=w.heap.size+1) (by first | rfl | omega) (st:=204) (mF:=204) rfl lu (dG (dJ _ _) H2.o.sz) jU oC;clear lu jU oC;go_wp2;generalize (((w9.setCell ⟨w.heap.size+1,0,none⟩ (.int .i64 204)).setCell ⟨w.heap.size+1,1,none⟩ (.slice jL n9 iC)).setCell ⟨w.heap.size+1,2,none⟩ (.slice none 0 0))=wf at *;obtain⟨q0,q1,q2,q3⟩:=HE.o;refine gy (v:=.agg #[.int .i64 204,.slice jL n9 iC,.slice none 0 0]) (by simp[results,results51,go_sem,q0,q1,q2]) rfl ?_;rw[HD.o];exact lU.of q3
   | false =>
     rw[if_neg (fun e=>by have:=eO.1 e.2;cases this)] at HD;clear eF eO;have Ca:=HF.o.val Tu.YO;generalize QU:Tu.one (Tu.vals Tu.YO l)=rr at *;obtain⟨vr,cr⟩:=rr;simp only at Ca HD;by_cases QV:cr=9
     . subst QV;rw[if_pos rfl] at HD;have HT:=H9 (rV (g:=g) (m:=m) (t:=t) (mi:=mi) (ln:=ln) (bo:=bo) (gK:=gK) (nb:=nb) Tu.AB (by decide) (HF.o.stay HB2.o) (by rw[Tu.um];exact QU));unfold Tu.AB at HT;clear QU Ca;go_wp2_with fail
       refine(HT.o).mono ?_;rintro e w9 hG;obtain⟨HE,jL,iC,n9,he⟩:=H2.o.fell hG;unfold iT at he;subst he;clear hG;go_wp2;exact⟨rfl,by rw[HD.o];exact HE.o⟩
     rw[if_neg QV] at HD;have HT:=H9 (oP (g:=g) (m:=m) (t:=t) (mi:=mi) (ln:=ln) (bo:=bo) (gK:=gK) (nb:=nb) Tu.AB (by decide) (HF.o.stay HB2.o) (by rw[Tu.um];exact QU) QV);unfold Tu.AB at HT;clear QU Ca QV;generalize decide (cr=0)=cb at *;obtain⟨bv,hbv⟩:∃b,((⟨vr.toArray⟩:ay).toList==([49,46,48,46,48]:av))=b:=⟨_,rfl⟩;have eV:vr=Tu.jP.data.toList<->bv=true:=by rw[<-hbv];exact Tu.eqV vr _
     generalize (⟨vr.toArray⟩:ay)=vb at *;go_wp2_with fail
     refine(HT.o).mono ?_;rintro e w3 ⟨rfl,hw⟩;have HB3:=H9 (then_ HB2.o hw);have H3:=H9 (H2.o.stay iK hw);clear hw H2 HB2 x0 x1 x2 x3 x4 x5 x6;obtain⟨x0,x1,x2,x3,x4,x5,x6⟩:=HC.o _ _ _ H3.o;clear HT;have oW:=H9 (kF Tu.yg Tu.jP w3);unfold Tu.yg Tu.jP at oW;go_wp2_with fail
     refine oW.o.mono ?_;rintro e w4 ⟨rfl,hw⟩;have hba:=(fJ _ w4).alloc (aM _) (.cells #[.string Tu.yg,.string Tu.jP] 111);have H4:=H9 ((H3.o.stay iK hw).stay iK hba);have jK:=H9 (then_ (then_ HB3.o hw) hba);have sH:=H9 (zS 412 412 rfl [(Tu.yg,Tu.jP)] (some ⟨w4.heap.size,0,none⟩) 1 1 _ (jo.made w4 #[.string Tu.yg,.string Tu.jP] 1 111 (0,0)) rfl (by decide));clear hw hba oW H3 HB3 x0 x1 x2 x3 x4 x5 x6;cases bv with
     | false =>
       rw[if_pos (fun e=>by have:=eV.1 e;cases this)] at HD;unfold Tu.yg Tu.jP at sH H4;go_wp2_with fail
       refine(sH.o).mono ?_;rintro e w9 hG;obtain⟨HE,jL,iC,n9,he⟩:=H4.o.fell hG;unfold iT at he;subst he;clear hG;go_wp2;exact⟨rfl,by rw[HD.o];exact HE.o⟩
     | true =>
     rw[if_neg (fun e=>e (eV.2 rfl))] at HD;clear eV sH;obtain⟨x0,x1,x2,x3,x4,x5,x6⟩:=HC.o _ _ _ H4.o;unfold Tu.yg Tu.jP at x0 x1 x2 x3 x4 x5 x6 H4 jK;go_wp2_with fail
     refine(iR 412 _ _ _ _).mono ?_;rintro e wq ⟨rfl,hw⟩;rw[hw];clear hw;generalize (w4.alloc (.cells #[.string ⟨#[84,117,115,45,86,101,114,115,105,111,110]⟩,.string ⟨#[49,46,48,46,48]⟩] 111))=w5 at *;rw[if_pos HTf.o] at HD;have UU:=H9 (Mt (g:=g) (m:=m) (t:=t) (mi:=mi) (ln:=ln) (bo:=bo) (gK:=gK) (nb:=nb) (H4.o.pw IE.o) H4.o.sh qy.o (HF.o.stay jK.o));generalize Tu.post s m l=r9 at *;obtain⟨sr,st,lr⟩:=r9;go_wp2_with fail
     refine(UU.o).mono ?_;rintro e w9 hE;cases hE with
     | @gave jL iC n9 _ lu jU kT sD =>
       have HE:=H9 (H4.o.Mc lu jU kT sD);unfold iT at HE ⊢;clear lu jU kT sD;go_wp2;exact⟨rfl,by rw[HD.o];exact HE.o⟩
     | @ret jL iC n9 _ lu jU kT sD =>
       have E5:=H4.o.did kT sD;replace jU:=jU.mono (dG (dJ _ _) H4.o.sz);have oC:=fJ w9.heap.size w9;obtain⟨⟨z0,z1,z2,y0,y1,y2⟩,HE⟩:=E5.ends iK (i:=1) rfl (b:=w.heap.size+1) (by first | rfl | omega) (st:=st) (mF:=(st:Int)) rfl lu (aM _) jU oC;clear lu jU oC kT sD E5;go_wp2;generalize (((w9.setCell ⟨w.heap.size+1,0,none⟩ (.int .i64 (st:Int))).setCell ⟨w.heap.size+1,1,none⟩ (.slice jL n9 iC)).setCell ⟨w.heap.size+1,2,none⟩ (.slice none 0 0))=wf at *;obtain⟨q0,q1,q2,q3⟩:=HE.o;refine gy (v:=.agg #[.int .i64 (st:Int),.slice jL n9 iC,.slice none 0 0]) (by simp[results,results51,go_sem,q0,q1,q2]) rfl ?_;rw[HD.o];exact lU.of q3
 | false =>
   have HTf:Hid (¬t=Tu.sZ):=fun e=>by have:=eF.1 e;cases this
   rw[if_neg (fun e=>HTf.o e.1)] at HD;clear eF eO;cases bo_ with
   | true =>
     have Ca:=HF.o.val Tu.YO;generalize QU:Tu.one (Tu.vals Tu.YO l)=rr at *;obtain⟨vr,cr⟩:=rr;simp only at Ca HD;by_cases QV:cr=9
     . subst QV;rw[if_pos rfl] at HD;have HT:=H9 (rV (g:=g) (m:=m) (t:=t) (mi:=mi) (ln:=ln) (bo:=bo) (gK:=gK) (nb:=nb) Tu.AB (by decide) (HF.o.stay HB2.o) (by rw[Tu.um];exact QU));unfold Tu.AB at HT;clear QU Ca;go_wp2_with fail
       refine(HT.o).mono ?_;rintro e w9 hG;obtain⟨HE,jL,iC,n9,he⟩:=H2.o.fell hG;unfold iT at he;subst he;clear hG;go_wp2;exact⟨rfl,by rw[HD.o];exact HE.o⟩
     rw[if_neg QV] at HD;have HT:=H9 (oP (g:=g) (m:=m) (t:=t) (mi:=mi) (ln:=ln) (bo:=bo) (gK:=gK) (nb:=nb) Tu.AB (by decide) (HF.o.stay HB2.o) (by rw[Tu.um];exact QU) QV);unfold Tu.AB at HT;clear QU Ca QV;generalize decide (cr=0)=cb at *;obtain⟨bv,hbv⟩:∃b,((⟨vr.toArray⟩:ay).toList==([49,46,48,46,48]:av))=b:=⟨_,rfl⟩;have eV:vr=Tu.jP.data.toList<->bv=true:=by rw[<-hbv];exact Tu.eqV vr _
     generalize (⟨vr.toArray⟩:ay)=vb at *;go_wp2_with fail
     refine(HT.o).mono ?_;rintro e w3 ⟨rfl,hw⟩;have HB3:=H9 (then_ HB2.o hw);have H3:=H9 (H2.o.stay iK hw);clear hw H2 HB2 x0 x1 x2 x3 x4 x5 x6;obtain⟨x0,x1,x2,x3,x4,x5,x6⟩:=HC.o _ _ _ H3.o;clear HT;have oW:=H9 (kF Tu.yg Tu.jP w3);unfold Tu.yg Tu.jP at oW;go_wp2_with fail
     refine oW.o.mono ?_;rintro e w4 ⟨rfl,hw⟩;have hba:=(fJ _ w4).alloc (aM _) (.cells #[.string Tu.yg,.string Tu.jP] 111);have H4:=H9 ((H3.o.stay iK hw).stay iK hba);have jK:=H9 (then_ (then_ HB3.o hw) hba);have sH:=H9 (zS 412 412 rfl [(Tu.yg,Tu.jP)] (some ⟨w4.heap.size,0,none⟩) 1 1 _ (jo.made w4 #[.string Tu.yg,.string Tu.jP] 1 111 (0,0)) rfl (by decide));clear hw hba oW H3 HB3 x0 x1 x2 x3 x4 x5 x6;cases bv with
     | false =>
       rw[if_pos (fun e=>by have:=eV.1 e;cases this)] at HD;unfold Tu.yg Tu.jP at sH H4;go_wp2_with fail
       refine(sH.o).mono ?_;rintro e w9 hG;obtain⟨HE,jL,iC,n9,he⟩:=H4.o.fell hG;unfold iT at he;subst he;clear hG;go_wp2;exact⟨rfl,by rw[HD.o];exact HE.o⟩
     | true =>
     rw[if_neg (fun e=>e (eV.2 rfl))] at HD;clear eV sH;obtain⟨x0,x1,x2,x3,x4,x5,x6⟩:=HC.o _ _ _ H4.o;unfold Tu.yg Tu.jP at x0 x1 x2 x3 x4 x5 x6 H4 jK;go_wp2_with fail
     refine(iR 412 _ _ _ _).mono ?_;rintro e wq ⟨rfl,hw⟩;rw[hw];clear hw;generalize (w4.alloc (.cells #[.string ⟨#[84,117,115,45,86,101,114,115,105,111,110]⟩,.string ⟨#[49,46,48,46,48]⟩] 111))=w5 at *;rw[if_neg HTf.o] at HD;obtain⟨O8,O9⟩:=Cg (g:=g) (m:=m) (t:=t) (mi:=mi) (ln:=ln) (fo:=fo) (gM:=gM) (nf:=nf) (bo:=bo) (gK:=gK) (nb:=nb) H4.o.sh qy.o (H4.o.pow IE.o) ht;cases Pb:Tu.AJ s.h t with
     | none =>
       rw[Pb] at HD;simp only at HD;have XB:=H9 (O8 Pb);clear O8 O9 Pb;go_wp2_with fail
       refine(XB.o).mono ?_;rintro e w9 hG;obtain⟨HE,jL,iC,n9,he⟩:=H4.o.fell hG;unfold iT at he;subst he;clear hG;go_wp2;exact⟨rfl,by rw[HD.o];exact HE.o⟩
     | some u =>
     rw[Pb] at HD;simp only at HD;have XB:=H9 (O9 u Pb);have hmem:=(Tu.Dz Pb).1;have ZW:=qy.o.h.all u hmem;have UR:=ZW.long;have hs0:=ZW.GL;have hs1:=ZW.Kg
     clear O8 O9 Pb hmem ZW;obtain⟨un,hun⟩:∃un,u.bytes.length=un:=⟨_,rfl⟩;have HUn:=H9 hun;rw[hun] at UR;rw[hun] at XB;clear hun;go_wp2_with fail
     refine XB.o.mono ?_;rintro e w6 ⟨uo,ji,rfl,hw⟩;have hba:=(fJ _ w6).alloc (aM _) (.cells #[.int .i64 u.id,.int .i64 u.size,.string u.note,.slice uo un ji,.int .i64 u.sent] 101);have H6:=H9 ((H4.o.stay iK hw).stay iK hba);have vP:=H9 (then_ (then_ jK.o hw) hba);clear hw hba XB H4 jK x0 x1 x2 x3 x4 x5 x6;obtain⟨x0,x1,x2,x3,x4,x5,x6⟩:=HC.o _ _ _ H6.o;have v0:(w6.alloc (.cells #[.int .i64 u.id,.int .i64 u.size,.string u.note,.slice uo un ji,.int .i64 u.sent] 101)).cell? ⟨w6.heap.size,0,none⟩=some (.int .i64 u.id):=World.cell?_alloc_mark w6 _ _ _ 0;have v1:(w6.alloc (.cells #[.int .i64 u.id,.int .i64 u.size,.string u.note,.slice uo un ji,.int .i64 u.sent] 101)).cell? ⟨w6.heap.size,1,none⟩=some (.int .i64 u.size):=World.cell?_alloc_mark w6 _ _ _ 1;have v2:(w6.alloc (.cells #[.int .i64 u.id,.int .i64 u.size,.string u.note,.slice uo un ji,.int .i64 u.sent] 101)).cell? ⟨w6.heap.size,2,none⟩=some (.string u.note):=World.cell?_alloc_mark w6 _ _ _ 2;have v3:(w6.alloc (.cells #[.int .i64 u.id,.int .i64 u.size,.string u.note,.slice uo un ji,.int .i64 u.sent] 101)).cell? ⟨w6.heap.size,3,none⟩=some (.slice uo un ji):=World.cell?_alloc_mark w6 _ _ _ 3;have v4:(w6.alloc (.cells #[.int .i64 u.id,.int .i64 u.size,.string u.note,.slice uo un ji,.int .i64 u.sent] 101)).cell? ⟨w6.heap.size,4,none⟩=some (.int .i64 u.sent):=World.cell?_alloc_mark w6 _ _ _ 4;go_upto_region 8 with fail
     generalize (w6.alloc (.cells #[.int .i64 u.id,.int .i64 u.size,.string u.note,.slice uo un ji,.int .i64 u.sent] 101))=w7 at *;generalize w6.heap.size=k6 at *;unfold Tu.R9 at HD;obtain⟨bh,hbh⟩:∃b,(m.toList==([72,69,65,68]:av))=b:=⟨_,rfl⟩;have eH:m=Tu.Ku<->bh=true:=by rw[<-hbh];exact Tu.Yq m Tu.Ku _ rfl
     cases bh with
     | true =>
       rw[if_pos (eH.2 rfl)] at HD;have HDs:Hid (Calls prog 90 #[.agg #[.int .i64 u.id,.int .i64 u.size,.string u.note,.slice uo un ji,.int .i64 u.sent]] w7 fun e w'=>∃(ao:ak) (cap k:Nat),e=.returned (.agg #[.int .i64 200,.slice ao k cap,.slice none 0 0])∧(Tu.head u).2.length=k∧gV w' w7.heap.size 111 2 ao cap k (gU (Tu.head u).2)∧aj w7 w'):=yE u uo un ji HUn.o hs0 hs1 UR w7 (H6.o.pow IE.o);have Pf:Hid (Tu.head u=(200,(Tu.head u).2)):=by unfold Hid;rfl
       rw[Pf.o] at HD;clear eH Pf;generalize (Tu.head u).2=lh at *;go_wp2_with fail
       refine HDs.o.mono ?_;rintro e w9 ⟨jL,iC,n9,rfl,lu,jU,oC⟩;obtain⟨⟨z0,z1,z2,y0,y1,y2⟩,HE⟩:=H6.o.ends iK (i:=1) rfl (b:=w.heap.size+1) (by first | rfl | omega) (st:=200) (mF:=200) rfl lu (dG (dJ _ _) H6.o.sz) jU oC;clear lu jU oC;go_wp2;generalize (((w9.setCell ⟨w.heap.size+1,0,none⟩ (.int .i64 200)).setCell ⟨w.heap.size+1,1,none⟩ (.slice jL n9 iC)).setCell ⟨w.heap.size+1,2,none⟩ (.slice none 0 0))=wf at *;obtain⟨q0,q1,q2,q3⟩:=HE.o;refine gy (v:=.agg #[.int .i64 200,.slice jL n9 iC,.slice none 0 0]) (by simp[results,results51,go_sem,q0,q1,q2]) rfl ?_;rw[HD.o];exact lU.of q3
     | false =>
     rw[if_neg (fun e=>by have:=eH.1 e;cases this)] at HD;clear eH;obtain⟨bt,hbt⟩:∃b,(m.toList==([80,65,84,67,72]:av))=b:=⟨_,rfl⟩;have eT:m=Tu.Vm<->bt=true:=by rw[<-hbt];exact Tu.Yq m Tu.Vm _ rfl
     cases bt with
     | true =>
       rw[if_neg (fun e=>by have:=(eT.2 rfl).symm.trans e;revert this;decide),if_pos (eT.2 rfl)] at HD;have HEx:=H9 (Cq (g:=g) (m:=m) (t:=t) (mi:=mi) (ln:=ln) (bo:=bo) (gK:=gK) (nb:=nb) (H6.o.pw IE.o) H6.o.sh qy.o (HF.o.stay vP.o) body UN.o (EC.o.stay vP.o) hnb u uo un ji HUn.o UR hs0);clear eT;generalize Tu.patch s u l body=r9 at *;obtain⟨sr,st,lr⟩:=r9;go_wp2_with fail
       refine(HEx.o).mono ?_;rintro e w9 hE;cases hE with
       | @gave jL iC n9 _ lu jU kT sD =>
         have HE:=H9 (H6.o.Mc lu jU kT sD);unfold iT at HE ⊢;clear lu jU kT sD;go_wp2;exact⟨rfl,by rw[HD.o];exact HE.o⟩
       | @ret jL iC n9 _ lu jU kT sD =>
         have E5:=H6.o.did kT sD;replace jU:=jU.mono (dG (dJ _ _) H6.o.sz);have oC:=fJ w9.heap.size w9;obtain⟨⟨z0,z1,z2,y0,y1,y2⟩,HE⟩:=E5.ends iK (i:=1) rfl (b:=w.heap.size+1) (by first | rfl | omega) (st:=st) (mF:=(st:Int)) rfl lu (aM _) jU oC;clear lu jU oC kT sD E5;go_wp2;generalize (((w9.setCell ⟨w.heap.size+1,0,none⟩ (.int .i64 (st:Int))).setCell ⟨w.heap.size+1,1,none⟩ (.slice jL n9 iC)).setCell ⟨w.heap.size+1,2,none⟩ (.slice none 0 0))=wf at *;obtain⟨q0,q1,q2,q3⟩:=HE.o;refine gy (v:=.agg #[.int .i64 (st:Int),.slice jL n9 iC,.slice none 0 0]) (by simp[results,results51,go_sem,q0,q1,q2]) rfl ?_;rw[HD.o];exact lU.of q3
     | false =>
     obtain⟨bd,hbd⟩:∃b,(m.toList==([68,69,76,69,84,69]:av))=b:=⟨_,rfl⟩;have eD:m=Tu.Vl<->bd=true:=by rw[<-hbd];exact Tu.Yq m Tu.Vl _ rfl
     cases bd with
     | true =>
       rw[if_pos (eD.2 rfl)] at HD;have HRe:=H9 (Co (g:=g) (m:=m) (t:=t) (mi:=mi) (ln:=ln) (fo:=fo) (gM:=gM) (nf:=nf) (bo:=bo) (gK:=gK) (nb:=nb) H6.o.sh qy.o u uo un ji);clear eT eD;generalize (Sr.sync (Sr.drop s u.id).1,Tu.said 204 [])=r9 at *;obtain⟨sr,st,lr⟩:=r9;go_wp2_with fail
       refine(HRe.o).mono ?_;rintro e w9 hE;cases hE with
       | @gave jL iC n9 _ lu jU kT sD =>
         have HE:=H9 (H6.o.Mc lu jU kT sD);unfold iT at HE ⊢;clear lu jU kT sD;go_wp2;exact⟨rfl,by rw[HD.o];exact HE.o⟩
       | @ret jL iC n9 _ lu jU kT sD =>
         have E5:=H6.o.did kT sD;replace jU:=jU.mono (dG (dJ _ _) H6.o.sz);have oC:=fJ w9.heap.size w9;obtain⟨⟨z0,z1,z2,y0,y1,y2⟩,HE⟩:=E5.ends iK (i:=1) rfl (b:=w.heap.size+1) (by first | rfl | omega) (st:=st) (mF:=(st:Int)) rfl lu (aM _) jU oC;clear lu jU oC kT sD E5;go_wp2;generalize (((w9.setCell ⟨w.heap.size+1,0,none⟩ (.int .i64 (st:Int))).setCell ⟨w.heap.size+1,1,none⟩ (.slice jL n9 iC)).setCell ⟨w.heap.size+1,2,none⟩ (.slice none 0 0))=wf at *;obtain⟨q0,q1,q2,q3⟩:=HE.o;refine gy (v:=.agg #[.int .i64 (st:Int),.slice jL n9 iC,.slice none 0 0]) (by simp[results,results51,go_sem,q0,q1,q2]) rfl ?_;rw[HD.o];exact lU.of q3
     | false =>
     rw[if_neg (fun e=>by have:=eD.1 e;cases this),if_neg (fun e=>by have:=eT.1 e;cases this)] at HD;have Bg:=H9 (jZ 405 405 rfl [] none 0 0 w7 (jo.nil w7) rfl (by decide));clear eT eD;go_wp2_with fail
     refine Bg.o.mono ?_;rintro e w9 ⟨jL,iC,n9,rfl,lu,jU,oC⟩;obtain⟨⟨z0,z1,z2,y0,y1,y2⟩,HE⟩:=H6.o.ends iK (i:=1) rfl (b:=w.heap.size+1) (by first | rfl | omega) (st:=405) (mF:=405) rfl lu (dG (dJ _ _) H6.o.sz) jU oC;clear lu jU oC;go_wp2;generalize (((w9.setCell ⟨w.heap.size+1,0,none⟩ (.int .i64 405)).setCell ⟨w.heap.size+1,1,none⟩ (.slice jL n9 iC)).setCell ⟨w.heap.size+1,2,none⟩ (.slice none 0 0))=wf at *;obtain⟨q0,q1,q2,q3⟩:=HE.o;refine gy (v:=.agg #[.int .i64 405,.slice jL n9 iC,.slice none 0 0]) (by simp[results,results51,go_sem,q0,q1,q2]) rfl ?_;rw[HD.o];exact lU.of q3
   | false =>
     have Ca:=HF.o.val Tu.YO;generalize QU:Tu.one (Tu.vals Tu.YO l)=rr at *;obtain⟨vr,cr⟩:=rr;simp only at Ca HD;by_cases QV:cr=9
     . subst QV;rw[if_pos rfl] at HD;have HT:=H9 (rV (g:=g) (m:=m) (t:=t) (mi:=mi) (ln:=ln) (bo:=bo) (gK:=gK) (nb:=nb) Tu.AB (by decide) (HF.o.stay HB2.o) (by rw[Tu.um];exact QU));unfold Tu.AB at HT;clear QU Ca;go_wp2_with fail
       refine(HT.o).mono ?_;rintro e w9 hG;obtain⟨HE,jL,iC,n9,he⟩:=H2.o.fell hG;unfold iT at he;subst he;clear hG;go_wp2;exact⟨rfl,by rw[HD.o];exact HE.o⟩
     rw[if_neg QV] at HD;have HT:=H9 (oP (g:=g) (m:=m) (t:=t) (mi:=mi) (ln:=ln) (bo:=bo) (gK:=gK) (nb:=nb) Tu.AB (by decide) (HF.o.stay HB2.o) (by rw[Tu.um];exact QU) QV);unfold Tu.AB at HT;clear QU Ca QV;generalize decide (cr=0)=cb at *;obtain⟨bv,hbv⟩:∃b,((⟨vr.toArray⟩:ay).toList==([49,46,48,46,48]:av))=b:=⟨_,rfl⟩;have eV:vr=Tu.jP.data.toList<->bv=true:=by rw[<-hbv];exact Tu.eqV vr _
     generalize (⟨vr.toArray⟩:ay)=vb at *;go_wp2_with fail
     refine(HT.o).mono ?_;rintro e w3 ⟨rfl,hw⟩;have HB3:=H9 (then_ HB2.o hw);have H3:=H9 (H2.o.stay iK hw);clear hw H2 HB2 x0 x1 x2 x3 x4 x5 x6;obtain⟨x0,x1,x2,x3,x4,x5,x6⟩:=HC.o _ _ _ H3.o;clear HT;have oW:=H9 (kF Tu.yg Tu.jP w3);unfold Tu.yg Tu.jP at oW;go_wp2_with fail
     refine oW.o.mono ?_;rintro e w4 ⟨rfl,hw⟩;have hba:=(fJ _ w4).alloc (aM _) (.cells #[.string Tu.yg,.string Tu.jP] 111);have H4:=H9 ((H3.o.stay iK hw).stay iK hba);have jK:=H9 (then_ (then_ HB3.o hw) hba);have sH:=H9 (zS 412 412 rfl [(Tu.yg,Tu.jP)] (some ⟨w4.heap.size,0,none⟩) 1 1 _ (jo.made w4 #[.string Tu.yg,.string Tu.jP] 1 111 (0,0)) rfl (by decide));clear hw hba oW H3 HB3 x0 x1 x2 x3 x4 x5 x6;cases bv with
     | false =>
       rw[if_pos (fun e=>by have:=eV.1 e;cases this)] at HD;unfold Tu.yg Tu.jP at sH H4;go_wp2_with fail
       refine(sH.o).mono ?_;rintro e w9 hG;obtain⟨HE,jL,iC,n9,he⟩:=H4.o.fell hG;unfold iT at he;subst he;clear hG;go_wp2;exact⟨rfl,by rw[HD.o];exact HE.o⟩
     | true =>
     rw[if_neg (fun e=>e (eV.2 rfl))] at HD;clear eV sH;obtain⟨x0,x1,x2,x3,x4,x5,x6⟩:=HC.o _ _ _ H4.o;unfold Tu.yg Tu.jP at x0 x1 x2 x3 x4 x5 x6 H4 jK;go_wp2_with fail
     refine(iR 412 _ _ _ _).mono ?_;rintro e wq ⟨rfl,hw⟩;rw[hw];clear hw;generalize (w4.alloc (.cells #[.string ⟨#[84,117,115,45,86,101,114,115,105,111,110]⟩,.string ⟨#[49,46,48,46,48]⟩] 111))=w5 at *;rw[if_neg HTf.o] at HD;obtain⟨O8,O9⟩:=Cg (g:=g) (m:=m) (t:=t) (mi:=mi) (ln:=ln) (fo:=fo) (gM:=gM) (nf:=nf) (bo:=bo) (gK:=gK) (nb:=nb) H4.o.sh qy.o (H4.o.pow IE.o) ht;cases Pb:Tu.AJ s.h t with
     | none =>
       rw[Pb] at HD;simp only at HD;have XB:=H9 (O8 Pb);clear O8 O9 Pb;go_wp2_with fail
       refine(XB.o).mono ?_;rintro e w9 hG;obtain⟨HE,jL,iC,n9,he⟩:=H4.o.fell hG;unfold iT at he;subst he;clear hG;go_wp2;exact⟨rfl,by rw[HD.o];exact HE.o⟩
     | some u =>
     rw[Pb] at HD;simp only at HD;have XB:=H9 (O9 u Pb);have hmem:=(Tu.Dz Pb).1;have ZW:=qy.o.h.all u hmem;have UR:=ZW.long;have hs0:=ZW.GL;have hs1:=ZW.Kg
     clear O8 O9 Pb hmem ZW;obtain⟨un,hun⟩:∃un,u.bytes.length=un:=⟨_,rfl⟩;have HUn:=H9 hun;rw[hun] at UR;rw[hun] at XB;clear hun;go_wp2_with fail
     refine XB.o.mono ?_;rintro e w6 ⟨uo,ji,rfl,hw⟩;have hba:=(fJ _ w6).alloc (aM _) (.cells #[.int .i64 u.id,.int .i64 u.size,.string u.note,.slice uo un ji,.int .i64 u.sent] 101);have H6:=H9 ((H4.o.stay iK hw).stay iK hba);have vP:=H9 (then_ (then_ jK.o hw) hba);clear hw hba XB H4 jK x0 x1 x2 x3 x4 x5 x6;obtain⟨x0,x1,x2,x3,x4,x5,x6⟩:=HC.o _ _ _ H6.o;have v0:(w6.alloc (.cells #[.int .i64 u.id,.int .i64 u.size,.string u.note,.slice uo un ji,.int .i64 u.sent] 101)).cell? ⟨w6.heap.size,0,none⟩=some (.int .i64 u.id):=World.cell?_alloc_mark w6 _ _ _ 0;have v1:(w6.alloc (.cells #[.int .i64 u.id,.int .i64 u.size,.string u.note,.slice uo un ji,.int .i64 u.sent] 101)).cell? ⟨w6.heap.size,1,none⟩=some (.int .i64 u.size):=World.cell?_alloc_mark w6 _ _ _ 1;have v2:(w6.alloc (.cells #[.int .i64 u.id,.int .i64 u.size,.string u.note,.slice uo un ji,.int .i64 u.sent] 101)).cell? ⟨w6.heap.size,2,none⟩=some (.string u.note):=World.cell?_alloc_mark w6 _ _ _ 2;have v3:(w6.alloc (.cells #[.int .i64 u.id,.int .i64 u.size,.string u.note,.slice uo un ji,.int .i64 u.sent] 101)).cell? ⟨w6.heap.size,3,none⟩=some (.slice uo un ji):=World.cell?_alloc_mark w6 _ _ _ 3;have v4:(w6.alloc (.cells #[.int .i64 u.id,.int .i64 u.size,.string u.note,.slice uo un ji,.int .i64 u.sent] 101)).cell? ⟨w6.heap.size,4,none⟩=some (.int .i64 u.sent):=World.cell?_alloc_mark w6 _ _ _ 4;go_upto_region 8 with fail
     generalize (w6.alloc (.cells #[.int .i64 u.id,.int .i64 u.size,.string u.note,.slice uo un ji,.int .i64 u.sent] 101))=w7 at *;generalize w6.heap.size=k6 at *;unfold Tu.R9 at HD;obtain⟨bh,hbh⟩:∃b,(m.toList==([72,69,65,68]:av))=b:=⟨_,rfl⟩;have eH:m=Tu.Ku<->bh=true:=by rw[<-hbh];exact Tu.Yq m Tu.Ku _ rfl
     cases bh with
     | true =>
       rw[if_pos (eH.2 rfl)] at HD;have HDs:Hid (Calls prog 90 #[.agg #[.int .i64 u.id,.int .i64 u.size,.string u.note,.slice uo un ji,.int .i64 u.sent]] w7 fun e w'=>∃(ao:ak) (cap k:Nat),e=.returned (.agg #[.int .i64 200,.slice ao k cap,.slice none 0 0])∧(Tu.head u).2.length=k∧gV w' w7.heap.size 111 2 ao cap k (gU (Tu.head u).2)∧aj w7 w'):=yE u uo un ji HUn.o hs0 hs1 UR w7 (H6.o.pow IE.o);have Pf:Hid (Tu.head u=(200,(Tu.head u).2)):=by unfold Hid;rfl
       rw[Pf.o] at HD;clear eH Pf;generalize (Tu.head u).2=lh at *;go_wp2_with fail
       refine HDs.o.mono ?_;rintro e w9 ⟨jL,iC,n9,rfl,lu,jU,oC⟩;obtain⟨⟨z0,z1,z2,y0,y1,y2⟩,HE⟩:=H6.o.ends iK (i:=1) rfl (b:=w.heap.size+1) (by first | rfl | omega) (st:=200) (mF:=200) rfl lu (dG (dJ _ _) H6.o.sz) jU oC;clear lu jU oC;go_wp2;generalize (((w9.setCell ⟨w.heap.size+1,0,none⟩ (.int .i64 200)).setCell ⟨w.heap.size+1,1,none⟩ (.slice jL n9 iC)).setCell ⟨w.heap.size+1,2,none⟩ (.slice none 0 0))=wf at *;obtain⟨q0,q1,q2,q3⟩:=HE.o;refine gy (v:=.agg #[.int .i64 200,.slice jL n9 iC,.slice none 0 0]) (by simp[results,results51,go_sem,q0,q1,q2]) rfl ?_;rw[HD.o];exact lU.of q3
     | false =>
     rw[if_neg (fun e=>by have:=eH.1 e;cases this)] at HD;clear eH;obtain⟨bt,hbt⟩:∃b,(m.toList==([80,65,84,67,72]:av))=b:=⟨_,rfl⟩;have eT:m=Tu.Vm<->bt=true:=by rw[<-hbt];exact Tu.Yq m Tu.Vm _ rfl
     cases bt with
     | true =>
       rw[if_neg (fun e=>by have:=(eT.2 rfl).symm.trans e;revert this;decide),if_pos (eT.2 rfl)] at HD;have HEx:=H9 (Cq (g:=g) (m:=m) (t:=t) (mi:=mi) (ln:=ln) (bo:=bo) (gK:=gK) (nb:=nb) (H6.o.pw IE.o) H6.o.sh qy.o (HF.o.stay vP.o) body UN.o (EC.o.stay vP.o) hnb u uo un ji HUn.o UR hs0);clear eT;generalize Tu.patch s u l body=r9 at *;obtain⟨sr,st,lr⟩:=r9;go_wp2_with fail
       refine(HEx.o).mono ?_;rintro e w9 hE;cases hE with
       | @gave jL iC n9 _ lu jU kT sD =>
         have HE:=H9 (H6.o.Mc lu jU kT sD);unfold iT at HE ⊢;clear lu jU kT sD;go_wp2;exact⟨rfl,by rw[HD.o];exact HE.o⟩
       | @ret jL iC n9 _ lu jU kT sD =>
         have E5:=H6.o.did kT sD;replace jU:=jU.mono (dG (dJ _ _) H6.o.sz);have oC:=fJ w9.heap.size w9;obtain⟨⟨z0,z1,z2,y0,y1,y2⟩,HE⟩:=E5.ends iK (i:=1) rfl (b:=w.heap.size+1) (by first | rfl | omega) (st:=st) (mF:=(st:Int)) rfl lu (aM _) jU oC;clear lu jU oC kT sD E5;go_wp2;generalize (((w9.setCell ⟨w.heap.size+1,0,none⟩ (.int .i64 (st:Int))).setCell ⟨w.heap.size+1,1,none⟩ (.slice jL n9 iC)).setCell ⟨w.heap.size+1,2,none⟩ (.slice none 0 0))=wf at *;obtain⟨q0,q1,q2,q3⟩:=HE.o;refine gy (v:=.agg #[.int .i64 (st:Int),.slice jL n9 iC,.slice none 0 0]) (by simp[results,results51,go_sem,q0,q1,q2]) rfl ?_;rw[HD.o];exact lU.of q3
     | false =>
     obtain⟨bd,hbd⟩:∃b,(m.toList==([68,69,76,69,84,69]:av))=b:=⟨_,rfl⟩;have eD:m=Tu.Vl<->bd=true:=by rw[<-hbd];exact Tu.Yq m Tu.Vl _ rfl
     cases bd with
     | true =>
       rw[if_pos (eD.2 rfl)] at HD;have HRe:=H9 (Co (g:=g) (m:=m) (t:=t) (mi:=mi) (ln:=ln) (fo:=fo) (gM:=gM) (nf:=nf) (bo:=bo) (gK:=gK) (nb:=nb) H6.o.sh qy.o u uo un ji);clear eT eD;generalize (Sr.sync (Sr.drop s u.id).1,Tu.said 204 [])=r9 at *;obtain⟨sr,st,lr⟩:=r9;go_wp2_with fail
       refine(HRe.o).mono ?_;rintro e w9 hE;cases hE with
       | @gave jL iC n9 _ lu jU kT sD =>
         have HE:=H9 (H6.o.Mc lu jU kT sD);unfold iT at HE ⊢;clear lu jU kT sD;go_wp2;exact⟨rfl,by rw[HD.o];exact HE.o⟩
       | @ret jL iC n9 _ lu jU kT sD =>
         have E5:=H6.o.did kT sD;replace jU:=jU.mono (dG (dJ _ _) H6.o.sz);have oC:=fJ w9.heap.size w9;obtain⟨⟨z0,z1,z2,y0,y1,y2⟩,HE⟩:=E5.ends iK (i:=1) rfl (b:=w.heap.size+1) (by first | rfl | omega) (st:=st) (mF:=(st:Int)) rfl lu (aM _) jU oC;clear lu jU oC kT sD E5;go_wp2;generalize (((w9.setCell ⟨w.heap.size+1,0,none⟩ (.int .i64 (st:Int))).setCell ⟨w.heap.size+1,1,none⟩ (.slice jL n9 iC)).setCell ⟨w.heap.size+1,2,none⟩ (.slice none 0 0))=wf at *;obtain⟨q0,q1,q2,q3⟩:=HE.o;refine gy (v:=.agg #[.int .i64 (st:Int),.slice jL n9 iC,.slice none 0 0]) (by simp[results,results51,go_sem,q0,q1,q2]) rfl ?_;rw[HD.o];exact lU.of q3
     | false =>
     rw[if_neg (fun e=>by have:=eD.1 e;cases this),if_neg (fun e=>by have:=eT.1 e;cases this)] at HD;have Bg:=H9 (jZ 405 405 rfl [] none 0 0 w7 (jo.nil w7) rfl (by decide));clear eT eD;go_wp2_with fail
     refine Bg.o.mono ?_;rintro e w9 ⟨jL,iC,n9,rfl,lu,jU,oC⟩;obtain⟨⟨z0,z1,z2,y0,y1,y2⟩,HE⟩:=H6.o.ends iK (i:=1) rfl (b:=w.heap.size+1) (by first | rfl | omega) (st:=405) (mF:=405) rfl lu (dG (dJ _ _) H6.o.sz) jU oC;clear lu jU oC;go_wp2;generalize (((w9.setCell ⟨w.heap.size+1,0,none⟩ (.int .i64 405)).setCell ⟨w.heap.size+1,1,none⟩ (.slice jL n9 iC)).setCell ⟨w.heap.size+1,2,none⟩ (.slice none 0 0))=wf at *;obtain⟨q0,q1,q2,q3⟩:=HE.o;refine gy (v:=.agg #[.int .i64 405,.slice jL n9 iC,.slice none 0 0]) (by simp[results,results51,go_sem,q0,q1,q2]) rfl ?_;rw[HD.o];exact lU.of q3
end
theorem Bh (b:Nat)(st:Int)(ao:ak)(n cap:Nat)(older:List PanicEntry)(w:World)(hr:w.cell? ⟨b,0,none⟩=some (.int .i64 0)∧w.cell? ⟨b,1,none⟩=some (.slice none 0 0)∧w.cell? ⟨b,2,none⟩=some (.slice none 0 0)∧w.frozen? ⟨b,0,none⟩=false∧w.frozen? ⟨b,1,none⟩=false∧w.frozen? ⟨b,2,none⟩=false):
 CallsD prog 83 #[.pointer (some ⟨b,0,none⟩)] (.panicking ({ v:=.iface 157 (.agg #[.int .i64 st,.slice ao n cap,.slice none 0 0]),recovered:=false }::older)) w fun e u' w' =>
  e=.returned (.tuple #[])∧u'=.panicking ({ v:=.iface 157 (.agg #[.int .i64 st,.slice ao n cap,.slice none 0 0]),recovered:=true }::older)∧w'=(((w.setCell ⟨b,0,none⟩ (.int .i64 st)).setCell ⟨b,1,none⟩ (.slice ao n cap)).setCell ⟨b,2,none⟩ (.slice none 0 0)):=by
 obtain⟨c0,c1,c2,f0,f1,f2⟩:=hr;refine callsD_of_wpS func83 rfl fun c₀ cs hu=>?_;apply wpS_seq;apply wpS_region;simp[wpOpsS,go_sem,recoverD,hu,ntmps83,Exit.thenS];change Code.wpS _ _ _ { tmps:=#[.pointer (some ⟨b,0,none⟩),.iface 157 (.agg #[.int .i64 st,.slice ao n cap,.slice none 0 0]),.iface 157 (.agg #[.int .i64 st,.slice ao n cap,.slice none 0 0]),undef,undef,undef,undef,undef],defers:=[] } _ _;refine wpS_of_wp ?_;have hta:∀w:World,(Instr.typeAssert (.iface 157 (.agg #[.int .i64 st,.slice ao n cap,.slice none 0 0])) 20 157 false).run prog w=.ok (.agg #[.int .i64 st,.slice ao n cap,.slice none 0 0]) w:=fun _=>by kernel_rfl
 have hfl:∀w:World,(Instr.field 157 (.agg #[.int .i64 st,.slice ao n cap,.slice none 0 0]) 0).run prog w=.ok (.agg #[.int .i64 st,.slice ao n cap,.slice none 0 0]) w:=fun _=>by kernel_rfl
 go_wp2;simp[bodyPostS,results,results83]
theorem Mv (b:Nat)(w:World):
 CallsD prog 83 #[.pointer (some ⟨b,0,none⟩)] .returning w fun e u' w'=>e=.returned (.tuple #[])∧u'=.returning∧w'=w:=by
 refine callsD_of_wpS func83 rfl fun c₀ cs hu=>?_;apply wpS_seq;apply wpS_region;simp[wpOpsS,go_sem,recoverD,hu,ntmps83,Exit.thenS];change Code.wpS _ _ _ { tmps:=#[.pointer (some ⟨b,0,none⟩),.nilIface,.nilIface,undef,undef,undef,undef,undef],defers:=[] } _ _;refine wpS_of_wp ?_;go_wp2;cases c₀;simp_all [bodyPostS,results,results83]
section
variable {g:Nat} {m t:ay} {mi ln:Int} {l:au} {fo:ak} {gM nf:Nat} {bo:ak} {gK nb:Nat} {w w0:World} {S:Nat->Prop} {s:Sr.Sh}
theorem aiF (h:iI w S g s):jv iI S w g [.cells #[.int .i64 0,.slice none 0 0,.slice none 0 0] 88 (0,0)] s (fun k=>S k∧k<w.heap.size) (w.alloc (.cells #[.int .i64 0,.slice none 0 0,.slice none 0 0] 88)):=(jv.start iK h).box iK rfl (fun _ e=>e.2) _
theorem Mw (p:wS w0 w S)(h:iI w S g s)(ok:Sr.Ok s)(hF:pX w l fo gM nf)(body:av)(hb:body.length=nb)(hB:iH w bo gK body)(hnb:nb<=100000)(ht:t.size<=100000):
 Calls prog 50 #[.func (.func 51) #[.agg #[.pointer (some ⟨g,0,none⟩),.string m,.string t,.int .i64 mi,.slice fo nf gM,.int .i64 ln,.slice bo nb gK]] #[]] w fun e w'=>zR iI S w g (Tu.iG s m t l body) e w':=by
 have UL:∀(fn:Fn) (first cap:Array Value) (w:World),(Instr.makeFunc fn first cap).run prog w=.ok (.func fn first cap) w:=fun _ _ _ _=>rfl;have T1:=aiF h;have hb1:=(fJ _ w).alloc (aM _) (.cells #[.int .i64 0,.slice none 0 0,.slice none 0 0] 88);have HRp:=H9 (O7 (m:=m) (t:=t) (mi:=mi) (ln:=ln) (bo:=bo) (gK:=gK) (nb:=nb) (T1.pw p) T1.sh ok (hF.stay hb1) body hb (hB.stay hb1) hnb ht);have H1:=H9 T1;clear T1 hb1 p h ok hF hb hB;obtain⟨R,hR⟩:∃R,R=Tu.iG s m t l body:=⟨_,rfl⟩;rw[<-hR] at HRp ⊢;clear hR;obtain⟨sr,st,lr⟩:=R;go_enter_defers func50,ntmps50
 go_wp2_with fail
 refine HRp.o.mono ?_;rintro e w9 hE;cases hE with
 | @gave jL iC n9 _ lu jU kT sD =>
   have E5:=H1.o.did kT sD;replace jU:=jU.mono (dG (dJ _ _) H1.o.sz);obtain⟨hz,HE⟩:=E5.ends iK (i:=0) rfl (b:=w.heap.size) (by first | rfl | omega) (st:=st) (mF:=(st:Int)) rfl lu (aM _) jU (fJ w9.heap.size w9);have HZ:=H9 hz;clear lu jU kT sD E5 hz;unfold iT;go_wp2;refine leaves_cons (f:=83) (args:=#[.pointer (some ⟨w.heap.size,0,none⟩)]) (by simp) (by simp[go_sem]) ?_;refine(Bh w.heap.size st jL n9 iC [] w9 HZ.o).mono ?_;rintro e u' w'' ⟨rfl,rfl,hw⟩;rw[hw];clear hw HZ;generalize (((w9.setCell ⟨w.heap.size,0,none⟩ (.int .i64 (st:Int))).setCell ⟨w.heap.size,1,none⟩ (.slice jL n9 iC)).setCell ⟨w.heap.size,2,none⟩ (.slice none 0 0))=wf at *;obtain⟨q0,q1,q2,q3⟩:=HE.o;simp[Leaves,settle,results,results50,go_sem,q0,q1,q2];exact q3
 | @ret jL iC n9 _ lu jU kT sD =>
   have E5:=H1.o.did kT sD;replace jU:=jU.mono (dG (dJ _ _) H1.o.sz);obtain⟨⟨z0,z1,z2,y0,y1,y2⟩,HE⟩:=E5.ends iK (i:=0) rfl (b:=w.heap.size) (by first | rfl | omega) (st:=st) (mF:=(st:Int)) rfl lu (aM _) jU (fJ w9.heap.size w9);clear lu jU kT sD E5;go_wp2;refine leaves_cons (f:=83) (args:=#[.pointer (some ⟨w.heap.size,0,none⟩)]) (by simp) (by simp[go_sem]) ?_;refine(Mv w.heap.size _).mono ?_;rintro e u' w'' ⟨rfl,rfl,hw⟩;rw[hw];clear hw;generalize (((w9.setCell ⟨w.heap.size,0,none⟩ (.int .i64 (st:Int))).setCell ⟨w.heap.size,1,none⟩ (.slice jL n9 iC)).setCell ⟨w.heap.size,2,none⟩ (.slice none 0 0))=wf at *;obtain⟨q0,q1,q2,q3⟩:=HE.o;simp[Leaves,settle,results,results50,go_sem,q0,q1,q2];exact q3
theorem ZX (p:wS w0 w S)(h:iI w S g s)(ok:Sr.Ok s)(hF:pX w l fo gM nf)(body:av)(hb:body.length=nb)(hB:iH w bo gK body)(hnb:nb<=100000)(ht:t.size<=100000):
 Calls prog 30 #[.pointer (some ⟨g,0,none⟩),.agg #[.string m,.string t,.int .i64 mi,.slice fo nf gM,.int .i64 ln],.slice bo nb gK] w fun e w'=>zR iI S w g (Tu.iG s m t l body) e w':=by
 have UL:∀(fn:Fn) (first cap:Array Value) (w:World),(Instr.makeFunc fn first cap).run prog w=.ok (.func fn first cap) w:=fun _ _ _ _=>rfl;have hz1:(w.alloc (.cells #[.string m,.string t,.int .i64 mi,.slice fo nf gM,.int .i64 ln] 68)).heap.size=w.heap.size+1:=fZ ..;have hz2:((w.alloc (.cells #[.string m,.string t,.int .i64 mi,.slice fo nf gM,.int .i64 ln] 68)).alloc (.cells #[.int .i64 0,.slice none 0 0,.slice none 0 0] 88)).heap.size=w.heap.size+2:=by rw[fZ,hz1]
 have T3:jv iI S w g [.cells #[.string m,.string t,.int .i64 mi,.slice fo nf gM,.int .i64 ln] 68 (0,0),.cells #[.int .i64 0,.slice none 0 0,.slice none 0 0] 88 (0,0),.cells #[.pointer (some ⟨g,0,none⟩),.string m,.string t,.int .i64 mi,.slice fo nf gM,.int .i64 ln,.slice bo nb gK] 123 (0,0)] s (fun k=>S k∧k<w.heap.size) (((w.alloc (.cells #[.string m,.string t,.int .i64 mi,.slice fo nf gM,.int .i64 ln] 68)).alloc (.cells #[.int .i64 0,.slice none 0 0,.slice none 0 0] 88)).alloc (.cells #[.pointer (some ⟨g,0,none⟩),.string m,.string t,.int .i64 mi,.slice fo nf gM,.int .i64 ln,.slice bo nb gK] 123)) :=
  (((jv.start iK h).box iK rfl (fun k e=>e.2) _).box iK hz1 (fun k e=>by rw[hz1];have:=e.2;omega) _).box iK hz2 (fun k e=>by rw[hz2];have:=e.2;omega) _
 have hb3:aj w (((w.alloc (.cells #[.string m,.string t,.int .i64 mi,.slice fo nf gM,.int .i64 ln] 68)).alloc (.cells #[.int .i64 0,.slice none 0 0,.slice none 0 0] 88)).alloc (.cells #[.pointer (some ⟨g,0,none⟩),.string m,.string t,.int .i64 mi,.slice fo nf gM,.int .i64 ln,.slice bo nb gK] 123)):=then_ (then_ ((fJ _ w).alloc (aM _) _) ((fJ _ _).alloc (aM _) _)) ((fJ _ _).alloc (aM _) _);have HCa:=H9 (Mw (m:=m) (t:=t) (mi:=mi) (ln:=ln) (bo:=bo) (gK:=gK) (nb:=nb) (T3.pw p) T3.sh ok (hF.stay hb3) body hb (hB.stay hb3) hnb ht);have H3:=H9 T3;clear T3 hb3 p h ok hF hb hB hz1 hz2;obtain⟨R,hR⟩:∃R,R=Tu.iG s m t l body:=⟨_,rfl⟩;rw[<-hR] at HCa ⊢;clear hR;obtain⟨sr,st,lr⟩:=R;go_enter func30,ntmps30;go_wp2_with fail
 refine HCa.o.mono ?_;rintro e w9 ⟨⟨jL,iC,n9,rfl,lu,jU⟩,kT,sD⟩;have E5:=H3.o.did kT sD;replace jU:=jU.mono (dG (dJ _ _) H3.o.sz);obtain⟨⟨z0,z1,z2,y0,y1,y2⟩,HE⟩:=E5.ends iK (i:=1) rfl (b:=w.heap.size+1) (by first | rfl | omega) (st:=st) (mF:=(st:Int)) rfl lu (aM _) jU (fJ w9.heap.size w9);clear lu jU kT sD E5;go_wp2;generalize (((w9.setCell ⟨w.heap.size+1,0,none⟩ (.int .i64 (st:Int))).setCell ⟨w.heap.size+1,1,none⟩ (.slice jL n9 iC)).setCell ⟨w.heap.size+1,2,none⟩ (.slice none 0 0))=wf at *;obtain⟨q0,q1,q2,q3⟩:=HE.o;refine gy (v:=.agg #[.int .i64 (st:Int),.slice jL n9 iC,.slice none 0 0]) (by simp[results,results30,go_sem,q0,q1,q2]) rfl ?_;exact q3
end
end Go.Proofs.YtjmndjmhjleabaaGreatDoor