/- Small texts, one behind the other: PmParse, PmGet, FsE, FsF, FsG. -/
import Derived.Test.YtjmndjmhjleabaaGreatDoorPk27
import Derived.Test.YtjmndjmhjleabaaGreatDoorPk37
import Derived.Test.YtjmndjmhjleabaaGreatDoorPk5
import Derived.Test.YtjmndjmhjleabaaGreatDoorPk10
import Derived.Test.YtjmndjmhjleabaaGreatDoorPk28
import Derived.Test.YtjmndjmhjleabaaGreatDoorPk18
import Derived.Test.YtjmndjmhjleabaaGreatDoorPk30
import Derived.Test.YtjmndjmhjleabaaGreatDoorFlB
set_option maxHeartbeats 4000000
set_option maxRecDepth 100000
open Go.Proofs.Tryz
namespace Go.Proofs.YtjmndjmhjleabaaGreatDoor
open Go.RowKit
theorem K6 (s:ByteArray)(w:World)(hs:s.size<=100000)(hv:Ch.aP s.data.toList=false):
 Calls prog 168 #[.string s] w fun e w'=>nA w (Pm.dI s.data.toList) e w':=by
 have HM:Hid (Pm.dI s.data.toList=.inl 3):=by unfold Hid Pm.dI;rw[if_pos hv]
 have HV:=H9 (dW s (w.alloc (.cells #[.string ⟨#[]⟩,.slice none 0 0] 172)) (by unfold maxLen;omega));rw[hv] at HV;have HB:Hid (Below w.heap.size w (w.alloc (.cells #[.string ⟨#[]⟩,.slice none 0 0] 172))):=(Below.refl _ _).alloc (Nat.le_refl _) _;have c0:(w.alloc (.cells #[.string ⟨#[]⟩,.slice none 0 0] 172)).cell? ⟨w.heap.size,0,none⟩=some (.string ⟨#[]⟩):=World.cell?_alloc_mark w _ _ _ 0;have c1:(w.alloc (.cells #[.string ⟨#[]⟩,.slice none 0 0] 172)).cell? ⟨w.heap.size,1,none⟩=some (.slice none 0 0):=World.cell?_alloc_mark w _ _ _ 1;clear hv;go_enter func168,ntmps168;go_wp2_with fail
 refine HV.o.mono ?_;rintro e w1 ⟨rfl,hw⟩;subst hw;go_wp2;refine bodyPost_ret (v:=.tuple #[.agg #[.string ⟨#[]⟩,.slice none 0 0],.int .i64 3]) (by simp[results,results168,go_sem,c0,c1]) rfl (nA.bad (c:=3) HM.o ?_);first | exact HB.o | exact(HB.o.setCell (Nat.le_refl _) _).setCell (Nat.le_refl _) _
theorem GR (s:ByteArray)(w:World)(hs:s.size<=100000)(hv:Ch.aP s.data.toList=true):
 Calls prog 168 #[.string s] w fun e w'=>nA w (Pm.dI s.data.toList) e w':=by
 have hM:=Pm.RQ s.data.toList hv;have HV:=H9 (dW s (w.alloc (.cells #[.string ⟨#[]⟩,.slice none 0 0] 172)) (by unfold maxLen;omega));rw[hv] at HV;have M7:∀(fn:Fn) (first cap:Array Value) (w:World),(Instr.makeFunc fn first cap).run prog w=.ok (.func fn first cap) w:=fun _ _ _ _=>rfl;have hb1:Below w.heap.size w (w.alloc (.cells #[.string ⟨#[]⟩,.slice none 0 0] 172)):=(Below.refl _ _).alloc (Nat.le_refl _) _;have r1:(w.alloc (.cells #[.string ⟨#[]⟩,.slice none 0 0] 172)).heap[w.heap.size]? = some (.cells #[.string ⟨#[]⟩,.slice none 0 0] 172 (0,0)):=heap_alloc_new w _;have hb2:Below (w.heap.size+1) (w.alloc (.cells #[.string ⟨#[]⟩,.slice none 0 0] 172)) ((w.alloc (.cells #[.string ⟨#[]⟩,.slice none 0 0] 172)).alloc (.cells #[.string s,.int .i64 0] 248)):=(Below.refl _ _).alloc (by simp) _;have hz:(w.alloc (.cells #[.string ⟨#[]⟩,.slice none 0 0] 172)).heap.size=w.heap.size+1:=by simp
 have hrd:bF ((w.alloc (.cells #[.string ⟨#[]⟩,.slice none 0 0] 172)).alloc (.cells #[.string s,.int .i64 0] 248)) (w.heap.size+1) s 0:=by
  have:=heap_alloc_new (w.alloc (.cells #[.string ⟨#[]⟩,.slice none 0 0] 172)) (.cells #[.string s,.int .i64 0] 248);rw[hz] at this;exact this
 have hr2:((w.alloc (.cells #[.string ⟨#[]⟩,.slice none 0 0] 172)).alloc (.cells #[.string s,.int .i64 0] 248)).heap[w.heap.size]? = some (.cells #[.string ⟨#[]⟩,.slice none 0 0] 172 (0,0)):=(hb2.block _ (by omega)).trans r1;have HB:Hid (Below w.heap.size w ((w.alloc (.cells #[.string ⟨#[]⟩,.slice none 0 0] 172)).alloc (.cells #[.string s,.int .i64 0] 248))):=hb1.trans (hb2.mono (by omega));have hz2:((w.alloc (.cells #[.string ⟨#[]⟩,.slice none 0 0] 172)).alloc (.cells #[.string s,.int .i64 0] 248)).heap.size=w.heap.size+2:=by simp
 have HR:=H9 hr2;clear hv;cases hm:Pm.yF s.data.toList 0 with
 | inl c =>
   rw[hm] at hM;have HM:=H9 hM;have HC:=H9 (K5 s (w.heap.size+1) w.heap.size _ hrd hs c hm);clear hM hm hb1 r1 hb2 hz hrd hr2 hz2;go_enter func168,ntmps168;go_wp2_with fail
   refine HV.o.mono ?_;rintro e w1 ⟨rfl,hw⟩;subst hw;go_wp2_with fail
   refine HC.o.mono ?_;rintro e w2 ⟨rfl,t2⟩;have R2:=H9 (t2.row HR.o (fun e=>by unfold only at e;omega));have B2:=H9 (HB.o.trans (t2.below (B:=w.heap.size) (fun k e=>by unfold only at e;omega) (by simp;omega)));clear t2;have c0:w2.cell? ⟨w.heap.size,0,none⟩=some (.string ⟨#[]⟩):=cell_of_row w2 _ 0 _ _ _ R2.out;have c1:w2.cell? ⟨w.heap.size,1,none⟩=some (.slice none 0 0):=cell_of_row w2 _ 1 _ _ _ R2.out;have f0:w2.frozen? ⟨w.heap.size,0,none⟩=false:=frozen_of_row w2 _ 0 _ _ R2.out;have f1:w2.frozen? ⟨w.heap.size,1,none⟩=false:=frozen_of_row w2 _ 1 _ _ R2.out;go_wp2;refine bodyPost_ret (v:=.tuple #[.agg #[.string ⟨#[]⟩,.slice none 0 0],.int .i64 (c:Int)]) (by simp[results,results168,go_sem,c0,c1]) rfl (nA.bad (c:=c) HM.o ?_);first | exact B2.out | exact(B2.out.setCell (Nat.le_refl _) _).setCell (Nat.le_refl _) _
 | inr x =>
   rw[hm] at hM;have HM:=H9 hM;have HC:=H9 (GQ s (w.heap.size+1) w.heap.size _ hrd hr2 hs x hm);rw[hz2] at HC;clear hM hm hb1 r1 hb2 hz hrd hr2 hz2;go_enter func168,ntmps168;go_wp2_with fail
   refine HV.o.mono ?_;rintro e w1 ⟨rfl,hw⟩;subst hw;go_wp2_with fail
   refine HC.o.mono ?_;rintro e w2 ⟨rfl,⟨wo,ps,ao,cap,hd,hwo,hps,ho⟩,t2⟩;have R2:=H9 hd;have B2:=H9 (HB.o.trans (t2.below (B:=w.heap.size) (fun k e=>by unfold both at e;omega) (by simp;omega)));have HO:=H9 ho;have HE:Hid (OW (.inr x) wo ps 0):=⟨rfl,hwo,hps⟩;clear t2 ho hwo hps hd;have c0:w2.cell? ⟨w.heap.size,0,none⟩=some (.string wo):=cell_of_row w2 _ 0 _ _ _ R2.out;have c1:w2.cell? ⟨w.heap.size,1,none⟩=some (.slice ao ps.length cap):=cell_of_row w2 _ 1 _ _ _ R2.out;have f0:w2.frozen? ⟨w.heap.size,0,none⟩=false:=frozen_of_row w2 _ 0 _ _ R2.out;have f1:w2.frozen? ⟨w.heap.size,1,none⟩=false:=frozen_of_row w2 _ 1 _ _ R2.out;go_wp2;refine bodyPost_ret (v:=.tuple #[.agg #[.string wo,.slice ao ps.length cap],.int .i64 0]) (by simp[results,results168,go_sem,c0,c1]) rfl ⟨wo,ps,ao,cap,0,rfl,by rw[HM.o];exact HE.o,?_,?_⟩
   . first
      | exact HO.o.mono (by omega)
      | (refine aC.turns (S:=fun k=>k=w.heap.size) (aC.turns (S:=fun k=>k=w.heap.size) (HO.o.mono (by omega)) (Turns.setCell _ _ _ _ rfl) (fun a e e2=>?_)) (Turns.setCell _ _ _ _ rfl) (fun a e e2=>?_) <;> (have:=(HO.o.block a e).1;omega))
   . first | exact B2.out | exact(B2.out.setCell (Nat.le_refl _) _).setCell (Nat.le_refl _) _
theorem qM (s:ByteArray)(w:World)(hs:s.size<=100000):
 Calls prog 168 #[.string s] w fun e w'=>nA w (Pm.dI s.data.toList) e w':=by
 cases hv:Ch.aP s.data.toList
 . exact K6 s w hs hv
 . exact GR s w hs hv
theorem sI (word:ByteArray)(l:List (ByteArray×ByteArray))(name:ByteArray)(ao:Option Addr)(cap n:Nat)(w:World)(hl:cu w ao cap n (aB l))(hn:l.length=n)(hN:n<=1000000)(hz:∀p∈l,p.2.size<=1000000):
 Calls prog 194 #[.agg #[.string word,.slice ao n cap],.string name] w fun e w'=>e=.returned (.tuple #[.string ((eG name l).getD ⟨#[]⟩),.bool (eG name l).isSome])∧Below w.heap.size w w':=by
 subst hn;have HI:=H9 hl;have HZ:=H9 hz;have HB0:=H9 (BoxM.start w word ao l.length cap);have HF:=H9 (pU l name ao cap l.length _ (hl.stay HB0.o.below) rfl hN);clear hl hz;go_enter func194,ntmps194;go_wp2_with fail
 refine HF.o.mono ?_;rintro e w1 ⟨r,rfl,hf,b1⟩;have HB1:=H9 (HB0.o.keep b1);clear b1;rcases hf with ⟨rfl,hno⟩ | ⟨k,hk,rfl,he,Pf⟩
 . have HR:=H9 (EO hno);clear hno;go_wp2;go_ret2;exact⟨by rw[HR.o];rfl,HB1.o.below⟩
 . have HR:=H9 (Lr hk Pf he);have t0:decide ((k:Int)<0)=false:=by rw[decide_eq_false_iff_not];omega
   obtain⟨bb,oo,rfl,hcs⟩:=(HI.o.stay HB1.o.below).lit (by rw[iI];omega);have hc1:w1.cell? ⟨bb,oo+k*2+1,none⟩=some (.string l[k].2):=by
    have:=hcs _ _ (kG l k hk).2;rwa[<-Nat.add_assoc] at this
   have c1:=HB1.o.cells.2;have hk':(k:Int)<l.length:=by omega
   have sV:=H9 (fun W=>fG l[k].2 W (HZ.o _ (List.getElem_mem hk)));clear hcs he Pf;generalize l[k]=p at *;go_wp2_with fail
   refine(sV.o _).mono ?_;rintro e w2 ⟨rfl,b2⟩;have HB2:=H9 (HB1.o.keep b2);clear b2;go_wp2;go_ret2;exact⟨by rw[HR.o];rfl,HB2.o.below⟩
theorem sJ (name:ByteArray):∀ps:List (ByteArray×ByteArray),(eG name ps).map (fun x=>x.data.toList)=Fm.get name.data.toList (fT ps)
 | []=>rfl
 | p :: t => by
   have ih:=sJ name t;unfold Fm.get fT at *;rw[List.map_cons,List.find?_cons];unfold eG;by_cases h:p.1.data.toList=name.data.toList
   . rw[if_pos h];have:((p.1.data.toList,p.2.data.toList).1==name.data.toList)=true:=by simpa using h
     rw[this];rfl
   . rw[if_neg h];have:((p.1.data.toList,p.2.data.toList).1==name.data.toList)=false:=by simpa using h
     rw[this];exact ih
theorem Cg {name:ByteArray}{ps:List (ByteArray×ByteArray)}{x:ByteArray}(h:eG name ps=some x):Fm.get name.data.toList (fT ps)=some x.data.toList∧∃p∈ps,p.2=x:=by
 refine⟨by rw[<-sJ,h];rfl,?_⟩;induction ps with
 | nil=>cases h
 | cons p t ih =>
   unfold eG at h;split at h
   . injection h with h;exact⟨p,List.mem_cons_self ..,h⟩
   . obtain⟨q,hq,e⟩:=ih h;exact⟨q,List.mem_cons_of_mem _ hq,e⟩
theorem Hg {name:ByteArray}{ps:List (ByteArray×ByteArray)}(h:eG name ps=none):Fm.get name.data.toList (fT ps)=none:=by rw[<-sJ,h];rfl
theorem Pg (name low:ByteArray)(l:List (ByteArray×ByteArray))(h:Ch.lower name.data.toList=low.data.toList)(h2:Ch.lower low.data.toList=low.data.toList):Fd.one (Fd.vals name l)=Fm.one (Rq.vals (Rq.Wd l) low.data.toList):=by
 rw[Rq.Eb l low h2,Fd.eu name low l (h.trans h2.symm)];unfold Fd.one Fm.one;match Fd.vals low l with
 | []=>rfl
 | [v]=>rfl
 | _::_::_=>rfl
theorem kV {w W W':World}{cs:Array Value}{t:Nat}(h:W.heap[w.heap.size]? = some (.cells cs t (0,0)))(hb:Below W.heap.size W W'):W'.heap[w.heap.size]? = some (.cells cs t (0,0)):=(hb.block _ (Array.getElem?_eq_some_iff.1 h).1).trans h
theorem Ci (word:ByteArray)(ps:List (ByteArray×ByteArray))(ao:Option Addr)(cap n:Nat)(w:World)(hl:cu w ao cap n (aB ps))(hn:ps.length=n)(hN:n<=1000)(hz:∀p∈ps,p.2.size<=100000):
 Calls prog 308 #[.agg #[.string word,.slice ao n cap]] w fun e w'=>e=.returned (Fm.oK (Fm.file (fT ps)))∧Below w.heap.size w w':=by
 have hb0:Below w.heap.size w (w.alloc (.cells #[.string word,.slice ao n cap] 172)):=(Below.refl _ _).alloc (Nat.le_refl _) _;have Ph:=H9 (sI word ps ⟨#[102,105,108,101,110,97,109,101,42]⟩ ao cap n _ (hl.stay hb0) hn (by omega) (fun p hp=>by have:=hz p hp;omega));have HG2:Hid (∀W,Below (w.alloc (.cells #[.string word,.slice ao n cap] 172)).heap.size (w.alloc (.cells #[.string word,.slice ao n cap] 172)) W->Calls prog 194 #[.agg #[.string word,.slice ao n cap],.string ⟨#[102,105,108,101,110,97,109,101]⟩] W fun e w'=>e=.returned (.tuple #[.string ((eG ⟨#[102,105,108,101,110,97,109,101]⟩ ps).getD ⟨#[]⟩),.bool (eG ⟨#[102,105,108,101,110,97,109,101]⟩ ps).isSome])∧Below W.heap.size W w'):=fun W hW=>sI word ps _ ao cap n W ((hl.stay hb0).stay hW) hn (by omega) (fun p hp=>by have:=hz p hp;omega);have HB0:=H9 hb0;have HZ:=H9 hz;have CW:=H9 (heap_alloc_new w (.cells #[.string word,.slice ao n cap] 172));clear hl hz hb0;cases h1:eG ⟨#[102,105,108,101,110,97,109,101,42]⟩ ps with
 | some x =>
   obtain⟨g1,p,hp,rfl⟩:=Cg h1;have hxz:=HZ.o p hp;rw[h1] at Ph;have hF:Fm.file (fT ps)=(Fm.coded p.2.data.toList).map Fm.safe:=by
    unfold Fm.file;have:Fm.get Fm.BI (fT ps)=some p.2.data.toList:=g1;rw[this]
   have HF:=H9 hF;have U9:=H9 (fun W=>Hf p.2 W (by omega));clear h1 g1 hp hF;cases hc:Fm.coded p.2.data.toList with
   | none =>
     rw[hc] at U9 HF;clear hc;go_enter func308,ntmps308;go_wp2_with fail
     refine Ph.o.mono ?_;rintro e w1 ⟨rfl,hb1⟩;go_wp2_with fail
     refine(U9.o _).mono ?_;rintro e w2 ⟨rfl,hb2⟩;unfold Fm.oK;have zQ:=H9 (then_ (then_ HB0.o hb1) hb2);clear hb1 hb2;go_wp2;go_ret2;exact⟨by rw[HF.o];rfl,zQ.o⟩
   | some y =>
     have hy:=Fm.Lp hc;rw[Ch.bC] at hy;rw[hc] at U9 HF;have U6:=H9 (fun W=>EJ ⟨y.toArray⟩ W (by show y.toArray.size<=_;rw[List.size_toArray];omega));clear hc;go_enter func308,ntmps308;go_wp2_with fail
     refine Ph.o.mono ?_;rintro e w1 ⟨rfl,hb1⟩;go_wp2_with fail
     refine(U9.o _).mono ?_;rintro e w2 ⟨rfl,hb2⟩;unfold Fm.oK;go_wp2_with fail
     refine(U6.o _).mono ?_;rintro e w3 ⟨rfl,hb3⟩;have zQ:=H9 (then_ (then_ (then_ HB0.o hb1) hb2) hb3);clear hb1 hb2 hb3;go_wp2;go_ret2;exact⟨by rw[HF.o];rfl,zQ.o⟩
 | none =>
   have g1:=Hg h1;rw[h1] at Ph;clear h1;cases h2:eG ⟨#[102,105,108,101,110,97,109,101]⟩ ps with
   | some x =>
     obtain⟨g2,p,hp,rfl⟩:=Cg h2;have hxz:=HZ.o p hp;rw[h2] at HG2;have hF:Fm.file (fT ps)=some (Fm.safe p.2.data.toList):=by
      unfold Fm.file;have e1:Fm.get Fm.BI (fT ps)=none:=g1;have e2:Fm.get Fm.F7 (fT ps)=some p.2.data.toList:=g2;rw[e1,e2]
     have HF:=H9 hF;have U6:=H9 (fun W=>EJ p.2 W (by omega));clear h2 g1 g2 hp hF;go_enter func308,ntmps308;go_wp2_with fail
     refine Ph.o.mono ?_;rintro e w1 ⟨rfl,hb1⟩;have hr1:=kV CW.o hb1;have c0:w1.cell? ⟨w.heap.size,0,none⟩=some (.string word):=cell_of_row w1 _ 0 _ _ _ hr1;have c1:w1.cell? ⟨w.heap.size,1,none⟩=some (.slice ao n cap):=cell_of_row w1 _ 1 _ _ _ hr1;have HB1:=H9 hb1;clear hb1 hr1;go_wp2_with fail
     refine(HG2.o _ HB1.o).mono ?_;rintro e w2 ⟨rfl,hb2⟩;go_wp2_with fail
     refine(U6.o _).mono ?_;rintro e w3 ⟨rfl,hb3⟩;have zQ:=H9 (then_ (then_ (then_ HB0.o HB1.o) hb2) hb3);clear hb2 hb3;go_wp2;go_ret2;exact⟨by rw[HF.o];rfl,zQ.o⟩
   | none =>
     have g2:=Hg h2;rw[h2] at HG2;have hF:Fm.file (fT ps)=some []:=by
      unfold Fm.file;have e1:Fm.get Fm.BI (fT ps)=none:=g1;have e2:Fm.get Fm.F7 (fT ps)=none:=g2;rw[e1,e2]
     have HF:=H9 hF;clear h2 g1 g2 hF;go_enter func308,ntmps308;go_wp2_with fail
     refine Ph.o.mono ?_;rintro e w1 ⟨rfl,hb1⟩;have hr1:=kV CW.o hb1;have c0:w1.cell? ⟨w.heap.size,0,none⟩=some (.string word):=cell_of_row w1 _ 0 _ _ _ hr1;have c1:w1.cell? ⟨w.heap.size,1,none⟩=some (.slice ao n cap):=cell_of_row w1 _ 1 _ _ _ hr1;have HB1:=H9 hb1;clear hb1 hr1;go_wp2_with fail
     refine(HG2.o _ HB1.o).mono ?_;rintro e w2 ⟨rfl,hb2⟩;have zQ:=H9 (then_ (then_ HB0.o HB1.o) hb2);clear hb2;go_wp2;go_ret2;exact⟨by rw[HF.o];rfl,zQ.o⟩
def Vu (m:Nat ⊕ List Pm.lW)(ps:List (ByteArray×ByteArray))(code:Nat):Prop :=
 match m with
 | .inl c=>code=c∧c≠0
 | .inr x=>code=0∧fT ps=x
def p9 (w:World)(m:Nat ⊕ List Pm.lW)(e:Ending)(w':World):Prop :=
 ∃word ps ao cap,∃code:Nat,e=.returned (.tuple #[.agg #[.string word,.slice ao ps.length cap],.int .i64 (code:Int)])∧Vu m ps code∧aC w' w.heap.size 202 2 ao cap ps.length (aB ps)∧Below w.heap.size w w'
theorem p9.bad {w w':World}{m:Nat ⊕ List Pm.lW}{c:Nat}(hm:m=.inl c)(hc:c≠0)(hb:Below w.heap.size w w'):p9 w m (.returned (.tuple #[.agg #[.string ⟨#[]⟩,.slice none 0 0],.int .i64 (c:Int)])) w':=by
 subst hm;exact⟨⟨#[]⟩,[],none,0,c,rfl,⟨rfl,hc⟩,aC.nil _ _ _ _,hb⟩
def kY:ByteArray:=⟨#[67,111,110,116,101,110,116,45,68,105,115,112,111,115,105,116,105,111,110]⟩
def bType:ByteArray:=⟨#[67,111,110,116,101,110,116,45,84,121,112,101]⟩
structure Md (w W:World):Prop where
 row:W.heap[w.heap.size]? = some (.cells #[.string ⟨#[]⟩,.slice none 0 0] 172 (0,0))
 below:Below w.heap.size w W
theorem Md.stay {w W W':World}(h:Md w W)(hb:Below W.heap.size W W'):Md w W':=⟨kV h.row hb,then_ h.below hb⟩
theorem Md.cells {w W:World}(h:Md w W):W.cell? ⟨w.heap.size,0,none⟩=some (.string ⟨#[]⟩)∧W.cell? ⟨w.heap.size,1,none⟩=some (.slice none 0 0)∧W.frozen? ⟨w.heap.size,0,none⟩=false∧W.frozen? ⟨w.heap.size,1,none⟩=false :=
 ⟨cell_of_row W _ 0 _ _ _ h.row,cell_of_row W _ 1 _ _ _ h.row,frozen_of_row W _ 0 _ _ h.row,frozen_of_row W _ 1 _ _ h.row⟩
theorem wu (l:List (ByteArray×ByteArray))(ao:Option Addr)(cap n:Nat)(w:World)(hl:cu w ao cap n (aB l))(hn:l.length=n)(hN:n<=1000)(hz:∀p∈l,p.1.size<=2000∧p.2.size<=2000):
 Calls prog 307 #[.slice ao n cap] w fun e w'=>p9 w (Fm.sH (Fd.one (Fd.vals kY l))) e w':=by
 have hR0:Md w (w.alloc (.cells #[.string ⟨#[]⟩,.slice none 0 0] 172)):=⟨heap_alloc_new w _,(Below.refl _ _).alloc (Nat.le_refl _) _⟩;have HO:=H9 (mq l kY ao cap n _ (hl.stay ((Below.refl _ _).alloc (Nat.le_refl _) (.cells #[.string ⟨#[]⟩,.slice none 0 0] 172))) hn (by omega) hz (by decide));have CW:=H9 hR0;have hd2:(Fd.one (Fd.vals kY l)).1.length<=2000:=by
  have hm:∀v∈Fd.vals kY l,v.size<=2000:=fun v hv=>by
   obtain⟨p,hp,rfl⟩:=Fd.rQ hv;exact(hz p hp).2
  unfold Fd.one;split
  . exact Nat.zero_le _
  . rename_i v hv;have:=hm v (by rw[hv];simp);rw[Ch.bC];exact this
  . exact Nat.zero_le _
 unfold nL at HO;unfold kY at HO;clear hl hz hR0;generalize hd:Fd.one (Fd.vals kY l)=d at *;have hd':Fd.one (Fd.vals ⟨#[67,111,110,116,101,110,116,45,68,105,115,112,111,115,105,116,105,111,110]⟩ l)=d:=hd;rw[hd'] at HO;clear hd hd';by_cases h0:d.2=0
 . have t0:((d.2:Int) != 0)=false:=by rw[h0];rfl
   have JW:=H9 (fun W=>qM ⟨d.1.toArray⟩ W (by show d.1.toArray.size<=_;rw[List.size_toArray];omega));have hdt:(⟨d.1.toArray⟩:ByteArray).data.toList=d.1:=rfl;rw[hdt] at JW;generalize (⟨d.1.toArray⟩:ByteArray)=vt at *;clear hdt;cases hm:Pm.dI d.1 with
   | inl c =>
     have hc:=Fm.xH hm;have HD:=H9 (Fm.O9 h0 hm);rw[hm] at JW;have tc:((c:Int) != 0)=true:=by rw[bne_iff_ne];omega
     have HC:=H9 hc;clear hm hc h0;go_enter func307,ntmps307;go_wp2_with fail
     refine HO.o.mono ?_;rintro e w1 ⟨rfl,hb1⟩;have HR1:=H9 (CW.o.stay hb1);clear hb1;go_wp2_with fail
     refine(JW.o w1).mono ?_;rintro e w2 ⟨word,ps,dN,cap2,code,rfl,⟨rfl,hwd,hps⟩,hO2,hb2⟩;have hR2:=(HR1.o.stay hb2).stay ((Below.refl _ _).alloc (Nat.le_refl _) (.cells #[.string word,.slice dN ps.length cap2] 172));obtain⟨c0,c1,f0,f1⟩:=hR2.cells;have HR2:=H9 hR2;clear hb2 hR2 hwd hps hO2;go_wp2;refine bodyPost_ret (v:=.tuple #[.agg #[.string ⟨#[]⟩,.slice none 0 0],.int .i64 (code:Int)]) (by simp[results,results307,go_sem,c0,c1]) rfl (p9.bad HD.o HC.o ?_);first | exact HR2.o.below | exact(HR2.o.below.setCell (Nat.le_refl _) _).setCell (Nat.le_refl _) _
   | inr x =>
     by_cases hx:x.1=Fm.Av
     . have HD:=H9 (Fm.R5 h0 hm hx);rw[hm] at JW;clear hm h0;go_enter func307,ntmps307;go_wp2_with fail
       refine HO.o.mono ?_;rintro e w1 ⟨rfl,hb1⟩;have HR1:=H9 (CW.o.stay hb1);clear hb1;go_wp2_with fail
       refine(JW.o w1).mono ?_;rintro e w2 ⟨word,ps,dN,cap2,code,rfl,⟨rfl,hwd,hps⟩,hO2,hb2⟩;have hR2:=(HR1.o.stay hb2).stay ((Below.refl _ _).alloc (Nat.le_refl _) (.cells #[.string word,.slice dN ps.length cap2] 172));obtain⟨c0,c1,f0,f1⟩:=hR2.cells;have HR2:=H9 hR2;have tw:(word.toList==[102,111,114,109,45,100,97,116,97])=true:=by
        rw[beq_iff_eq,Lib.toList_data,hwd,hx];rfl
       have CX:=H9 hps;have hz1:=HR1.o.below.size;have hgt:w.heap.size<w1.heap.size:=(Array.getElem?_eq_some_iff.1 HR1.o.row).1;have mF:=H9 ((hO2.mono (show w.heap.size<=w1.heap.size from hz1)).stay ((Below.refl _ _).alloc (Nat.le_refl _) (.cells #[.string word,.slice dN ps.length cap2] 172)));have HNe:Hid (∀a,dN=some a->a.block≠w.heap.size):=fun a e=>by have:=(hO2.block a e).1;omega
       clear hb2 hR2 hwd hps hO2;go_wp2;refine bodyPost_ret (v:=.tuple #[.agg #[.string word,.slice dN ps.length cap2],.int .i64 0]) (by simp[results,results307,go_sem,c0,c1]) rfl ⟨word,ps,dN,cap2,0,rfl,?_,?_,?_⟩
       . rw[HD.o];exact⟨rfl,CX.o⟩
       . exact((mF.o.turns (Turns.setCell (fun k=>k=w.heap.size) _ _ _ rfl) (fun a e=>HNe.o a e)).turns (Turns.setCell (fun k=>k=w.heap.size) _ _ _ rfl) (fun a e=>HNe.o a e))
       . exact(HR2.o.below.setCell (Nat.le_refl _) _).setCell (Nat.le_refl _) _
     . have HD:=H9 (Fm.Lm h0 hm hx);rw[hm] at JW;clear hm h0;go_enter func307,ntmps307;go_wp2_with fail
       refine HO.o.mono ?_;rintro e w1 ⟨rfl,hb1⟩;have HR1:=H9 (CW.o.stay hb1);clear hb1;go_wp2_with fail
       refine(JW.o w1).mono ?_;rintro e w2 ⟨word,ps,dN,cap2,code,rfl,⟨rfl,hwd,hps⟩,hO2,hb2⟩;have hR2:=(HR1.o.stay hb2).stay ((Below.refl _ _).alloc (Nat.le_refl _) (.cells #[.string word,.slice dN ps.length cap2] 172));obtain⟨c0,c1,f0,f1⟩:=hR2.cells;have HR2:=H9 hR2;have tw:(word.toList==[102,111,114,109,45,100,97,116,97])=false:=by
        rw[beq_eq_false_iff_ne,Lib.toList_data,hwd];exact hx
       clear hb2 hR2 hwd hps hO2;go_wp2;refine bodyPost_ret (v:=.tuple #[.agg #[.string ⟨#[]⟩,.slice none 0 0],.int .i64 11]) (by simp[results,results307,go_sem,c0,c1]) rfl (p9.bad (c:=11) HD.o (by decide) ?_);first | exact HR2.o.below | exact(HR2.o.below.setCell (Nat.le_refl _) _).setCell (Nat.le_refl _) _
 . have t0:((d.2:Int) != 0)=true:=by rw[bne_iff_ne];omega
   have HD:Hid (Fm.sH d=.inl d.2):=by unfold Hid Fm.sH;rw[if_pos h0]
   have H0:=H9 h0;clear h0;go_enter func307,ntmps307;go_wp2_with fail
   refine HO.o.mono ?_;rintro e w1 ⟨rfl,hb1⟩;have mH:=CW.o.stay hb1;obtain⟨c0,c1,f0,f1⟩:=mH.cells;have HR1:=H9 mH;clear hb1 mH;go_wp2;refine bodyPost_ret (v:=.tuple #[.agg #[.string ⟨#[]⟩,.slice none 0 0],.int .i64 (d.2:Int)]) (by simp[results,results307,go_sem,c0,c1]) rfl (p9.bad HD.o H0.o ?_);first | exact HR1.o.below | exact(HR1.o.below.setCell (Nat.le_refl _) _).setCell (Nat.le_refl _) _
def Fm.Fe:Nat ⊕ Fm.Rm->Value
 | .inl c=>.tuple #[.agg #[.string ⟨#[]⟩,.string ⟨#[]⟩,.string ⟨#[]⟩,.slice none 0 0],.int .i64 (c:Int)]
 | .inr p=>.tuple #[.agg #[.string ⟨p.name.toArray⟩,.string ⟨p.file.toArray⟩,.string ⟨p.type.toArray⟩,.slice none 0 0],.int .i64 0]
structure Me (w W:World):Prop where
 row:W.heap[w.heap.size]? = some (.cells #[.string ⟨#[]⟩,.string ⟨#[]⟩,.string ⟨#[]⟩,.slice none 0 0] 70 (0,0))
 below:Below w.heap.size w W
theorem Me.stay {w W W':World}(h:Me w W)(hb:Below W.heap.size W W'):Me w W':=⟨kV h.row hb,then_ h.below hb⟩
theorem Me.cells {w W:World}(h:Me w W):W.cell? ⟨w.heap.size,0,none⟩=some (.string ⟨#[]⟩)∧W.cell? ⟨w.heap.size,1,none⟩=some (.string ⟨#[]⟩)∧W.cell? ⟨w.heap.size,2,none⟩=some (.string ⟨#[]⟩)∧W.cell? ⟨w.heap.size,3,none⟩=some (.slice none 0 0)∧W.frozen? ⟨w.heap.size,0,none⟩=false∧W.frozen? ⟨w.heap.size,1,none⟩=false∧W.frozen? ⟨w.heap.size,2,none⟩=false∧W.frozen? ⟨w.heap.size,3,none⟩=false :=
 ⟨cell_of_row W _ 0 _ _ _ h.row,cell_of_row W _ 1 _ _ _ h.row,cell_of_row W _ 2 _ _ _ h.row,cell_of_row W _ 3 _ _ _ h.row,frozen_of_row W _ 0 _ _ h.row,frozen_of_row W _ 1 _ _ h.row,frozen_of_row W _ 2 _ _ h.row,frozen_of_row W _ 3 _ _ h.row⟩
theorem yZ {w W:World}(h:Below w.heap.size w W)(v0 v1 v2 v3:Value):Below w.heap.size w ((((W.setCell ⟨w.heap.size,0,none⟩ v0).setCell ⟨w.heap.size,1,none⟩ v1).setCell ⟨w.heap.size,2,none⟩ v2).setCell ⟨w.heap.size,3,none⟩ v3) :=
 (((h.setCell (Nat.le_refl _) _).setCell (Nat.le_refl _) _).setCell (Nat.le_refl _) _).setCell (Nat.le_refl _) _
theorem Sn (l:List (ByteArray×ByteArray))(ao:Option Addr)(cap n:Nat)(w:World)(hl:cu w ao cap n (aB l))(hn:l.length=n)(hN:n<=1000)(hz:∀p∈l,p.1.size<=2000∧p.2.size<=2000):
 Calls prog 305 #[.slice ao n cap] w fun e w'=>e=.returned (Fm.Fe (Fm.jM (Fd.one (Fd.vals kY l)) (Fd.one (Fd.vals bType l))))∧Below w.heap.size w w':=by
 have hR0:Me w (w.alloc (.cells #[.string ⟨#[]⟩,.string ⟨#[]⟩,.string ⟨#[]⟩,.slice none 0 0] 70)):=⟨heap_alloc_new w _,(Below.refl _ _).alloc (Nat.le_refl _) _⟩;have HL:Hid (∀W,Below w.heap.size w W->cu W ao cap n (aB l)):=fun W hW=>hl.stay hW;have HD:=H9 (wu l ao cap n _ (HL.o _ hR0.below) hn hN hz);have Vv:Hid (∀W,Below w.heap.size w W->Calls prog 117 #[.slice ao n cap,.string bType] W fun e w'=>e=.returned (nL (Fd.one (Fd.vals bType l)))∧Below W.heap.size W w'):=fun W hW=>mq l bType ao cap n W (HL.o W hW) hn (by omega) hz (by decide);have CW:=H9 hR0;have hd2:(Fd.one (Fd.vals kY l)).1.length<=2000:=by
  have hm:∀v∈Fd.vals kY l,v.size<=2000:=fun v hv=>by
   obtain⟨p,hp,rfl⟩:=Fd.rQ hv;exact(hz p hp).2
  unfold Fd.one;split
  . exact Nat.zero_le _
  . rename_i v hv;have:=hm v (by rw[hv];simp);rw[Ch.bC];exact this
  . exact Nat.zero_le _
 unfold nL at Vv;clear hl hz hR0 HL;generalize Fd.one (Fd.vals kY l)=d at *;generalize Fd.one (Fd.vals bType l)=t at *;have hP:=Fm.EM d t;unfold bType at Vv;cases hdi:Fm.sH d with
 | inl c =>
   rw[hdi] at HD hP;have HP:Hid (Fm.jM d t=.inl c):=hP;clear hdi hP Vv;go_enter func305,ntmps305;go_wp2_with fail
   refine HD.o.mono ?_;rintro e w1 ⟨word,ps,dN,cap2,code,rfl,⟨rfl,hc⟩,jP,hb1⟩;have tc:((code:Int) != 0)=true:=by rw[bne_iff_ne];omega
   have mH:=(CW.o.stay hb1).stay ((Below.refl _ _).alloc (Nat.le_refl _) (.cells #[.string word,.slice dN ps.length cap2] 172));obtain⟨c0,c1,c2,c3,f0,f1,f2,f3⟩:=mH.cells;have HR1:=H9 mH;clear hb1 mH jP hc;go_wp2;refine bodyPost_ret (v:=.tuple #[.agg #[.string ⟨#[]⟩,.string ⟨#[]⟩,.string ⟨#[]⟩,.slice none 0 0],.int .i64 (code:Int)]) (by simp[results,results305,go_sem,c0,c1,c2,c3]) rfl ⟨by rw[HP.o];rfl,?_⟩;first | exact HR1.o.below | exact yZ HR1.o.below _ _ _ _
 | inr xs =>
   have iw:=Fm.Pb hdi;rw[hdi] at HD hP;have hP:Fm.jM d t=Fm.partOf xs t:=hP;clear hdi;go_enter func305,ntmps305;go_wp2_with fail
   refine HD.o.mono ?_;rintro e w1 ⟨word,ps,dN,cap2,code,rfl,⟨rfl,hps⟩,jP,hb1⟩;subst hps;obtain⟨n2,hn2⟩:∃n2,ps.length=n2:=⟨_,rfl⟩;rw[hn2] at jP;rw[hn2];have hn8:n2<=8:=by rw[<-hn2,<-lK];exact iw.1
   have Va:∀p∈ps,p.2.size<=2000:=fun p hp=>by
    have:=iw.2 (p.1.data.toList,p.2.data.toList) (List.mem_map.2 ⟨p,hp,rfl⟩);have h2:p.2.data.toList.length<=d.1.length:=this;rw[Ch.bC] at h2;omega
   have R6:Below w1.heap.size w1 (w1.alloc (.cells #[.string word,.slice dN n2 cap2] 172)):=(Below.refl _ _).alloc (Nat.le_refl _) _;have mH:=(CW.o.stay hb1).stay R6;have hM1:=heap_alloc_new w1 (.cells #[.string word,.slice dN n2 cap2] 172);have hV1:=jP.lQ.stay R6;have Ik:=H9 (sI word ps ⟨#[110,97,109,101]⟩ dN cap2 n2 _ hV1 hn2 (by omega) (fun p hp=>by have:=Va p hp;omega));have Lc:Hid (∀W,Below (w1.alloc (.cells #[.string word,.slice dN n2 cap2] 172)).heap.size (w1.alloc (.cells #[.string word,.slice dN n2 cap2] 172)) W->Calls prog 308 #[.agg #[.string word,.slice dN n2 cap2]] W fun e w'=>e=.returned (Fm.oK (Fm.file (fT ps)))∧Below W.heap.size W w'):=fun W hW=>Ci word ps dN cap2 n2 W (hV1.stay hW) hn2 (by omega) (fun p hp=>by have:=Va p hp;omega);have HR1:=H9 mH;have PU:=H9 hM1;have HP:=H9 hP;have HVz:=H9 Va
   clear hb1 jP hn2 Va R6 mH hM1 hV1 hP iw HD;generalize hW1:(w1.alloc (.cells #[.string word,.slice dN n2 cap2] 172))=W1 at *;have m0:W1.cell? ⟨w1.heap.size,0,none⟩=some (.string word):=cell_of_row W1 _ 0 _ _ _ PU.o;have m1:W1.cell? ⟨w1.heap.size,1,none⟩=some (.slice dN n2 cap2):=cell_of_row W1 _ 1 _ _ _ PU.o;cases hnm:eG ⟨#[110,97,109,101]⟩ ps with
   | none =>
     have g1:Fm.get Fm.Dx (fT ps)=none:=Hg hnm;rw[hnm] at Ik;have Vw:Hid (Fm.jM d t=.inl 6):=by unfold Hid;rw[HP.o];unfold Fm.partOf;rw[g1]
     clear hnm g1 HP Lc Vv;go_wp2_with fail
     refine Ik.o.mono ?_;rintro e w3 ⟨rfl,hb3⟩;have XM:=HR1.o.stay hb3;obtain⟨c0,c1,c2,c3,f0,f1,f2,f3⟩:=XM.cells;have HR3:=H9 XM;clear hb3 XM hW1 m0 m1;go_wp2;refine bodyPost_ret (v:=.tuple #[.agg #[.string ⟨#[]⟩,.string ⟨#[]⟩,.string ⟨#[]⟩,.slice none 0 0],.int .i64 6]) (by simp[results,results305,go_sem,c0,c1,c2,c3]) rfl ⟨by rw[Vw.o];rfl,?_⟩;first | exact HR3.o.below | exact yZ HR3.o.below _ _ _ _
   | some x =>
     obtain⟨g1,_⟩:=Cg hnm;have g1:Fm.get Fm.Dx (fT ps)=some x.data.toList:=g1;rw[hnm] at Ik;cases hfl:Fm.file (fT ps) with
     | none =>
       rw[hfl] at Lc;have Vw:Hid (Fm.jM d t=.inl 5):=by unfold Hid;rw[HP.o];unfold Fm.partOf;rw[g1,hfl]
       clear hnm g1 HP Vv hfl;go_wp2_with fail
       refine Ik.o.mono ?_;rintro e w3 ⟨rfl,hb3⟩;have HB3:=H9 hb3;have PX:=kV PU.o hb3;have n0:w3.cell? ⟨w1.heap.size,0,none⟩=some (.string word):=cell_of_row w3 _ 0 _ _ _ PX;have n1:w3.cell? ⟨w1.heap.size,1,none⟩=some (.slice dN n2 cap2):=cell_of_row w3 _ 1 _ _ _ PX;clear hb3 PX m0 m1 hW1;go_wp2_with fail
       refine(Lc.o w3 HB3.o).mono ?_;rintro e w4 ⟨rfl,hb4⟩;unfold Fm.oK;have hR4:=(HR1.o.stay HB3.o).stay hb4;obtain⟨c0,c1,c2,c3,f0,f1,f2,f3⟩:=hR4.cells;have HR4:=H9 hR4;clear hb4 hR4 n0 n1;go_wp2;refine bodyPost_ret (v:=.tuple #[.agg #[.string ⟨#[]⟩,.string ⟨#[]⟩,.string ⟨#[]⟩,.slice none 0 0],.int .i64 5]) (by simp[results,results305,go_sem,c0,c1,c2,c3]) rfl ⟨by rw[Vw.o];rfl,?_⟩;first | exact HR4.o.below | exact yZ HR4.o.below _ _ _ _
     | some f =>
       rw[hfl] at Lc;have hP2:Fm.jM d t=if t.2=9 then .inl 9 else .inr ⟨x.data.toList,f,t.1⟩:=by rw[HP.o];unfold Fm.partOf;rw[g1,hfl]
       clear hnm g1 HP hfl;by_cases h9:t.2=9
       . rw[if_pos h9] at hP2;have Vw:=H9 hP2;have t9:((t.2:Int)==9)=true:=by rw[h9];rfl
         have HT9:=H9 h9;clear hP2 h9;go_wp2_with fail
         refine Ik.o.mono ?_;rintro e w3 ⟨rfl,hb3⟩;have HB3:=H9 hb3;have PX:=kV PU.o hb3;have n0:w3.cell? ⟨w1.heap.size,0,none⟩=some (.string word):=cell_of_row w3 _ 0 _ _ _ PX;have n1:w3.cell? ⟨w1.heap.size,1,none⟩=some (.slice dN n2 cap2):=cell_of_row w3 _ 1 _ _ _ PX;clear hb3 PX m0 m1 hW1;go_wp2_with fail
         refine(Lc.o w3 HB3.o).mono ?_;rintro e w4 ⟨rfl,hb4⟩;unfold Fm.oK;have HR4:=H9 ((HR1.o.stay HB3.o).stay hb4);clear hb4 n0 n1;go_wp2_with fail
         refine(Vv.o w4 HR4.o.below).mono ?_;rintro e w5 ⟨rfl,hb5⟩;have Vx:=HR4.o.stay hb5;obtain⟨c0,c1,c2,c3,f0,f1,f2,f3⟩:=Vx.cells;have Lf:=H9 Vx;clear hb5 Vx;go_wp2;refine bodyPost_ret (v:=.tuple #[.agg #[.string ⟨#[]⟩,.string ⟨#[]⟩,.string ⟨#[]⟩,.slice none 0 0],.int .i64 (t.2:Int)]) (by simp[results,results305,go_sem,c0,c1,c2,c3]) rfl ⟨by rw[Vw.o,HT9.o];rfl,?_⟩;first | exact Lf.o.below | exact yZ Lf.o.below _ _ _ _
       . rw[if_neg h9] at hP2;have Vw:=H9 hP2;have t9:((t.2:Int)==9)=false:=by rw[beq_eq_false_iff_ne];omega
         clear hP2 h9;go_wp2_with fail
         refine Ik.o.mono ?_;rintro e w3 ⟨rfl,hb3⟩;have HB3:=H9 hb3;have PX:=kV PU.o hb3;have n0:w3.cell? ⟨w1.heap.size,0,none⟩=some (.string word):=cell_of_row w3 _ 0 _ _ _ PX;have n1:w3.cell? ⟨w1.heap.size,1,none⟩=some (.slice dN n2 cap2):=cell_of_row w3 _ 1 _ _ _ PX;clear hb3 PX m0 m1 hW1;go_wp2_with fail
         refine(Lc.o w3 HB3.o).mono ?_;rintro e w4 ⟨rfl,hb4⟩;unfold Fm.oK;have HR4:=H9 ((HR1.o.stay HB3.o).stay hb4);clear hb4 n0 n1;go_wp2_with fail
         refine(Vv.o w4 HR4.o.below).mono ?_;rintro e w5 ⟨rfl,hb5⟩;have Vx:=HR4.o.stay hb5;obtain⟨c0,c1,c2,c3,f0,f1,f2,f3⟩:=Vx.cells;have Lf:=H9 Vx;clear hb5 Vx;go_wp2;refine bodyPost_ret (v:=.tuple #[.agg #[.string x,.string ⟨f.toArray⟩,.string ⟨t.1.toArray⟩,.slice none 0 0],.int .i64 0]) (by simp[results,results305,go_sem,c0,c1,c2,c3]) rfl ⟨by rw[Vw.o];unfold Fm.Fe;simp only[],?_⟩;exact yZ Lf.o.below _ _ _ _
theorem PY (l:List (ByteArray×ByteArray))(ao:Option Addr)(cap n:Nat)(w:World)(hl:cu w ao cap n (aB l))(hn:l.length=n)(hN:n<=1000)(hz:∀p∈l,p.1.size<=2000∧p.2.size<=2000):
 Calls prog 305 #[.slice ao n cap] w fun e w'=>e=.returned (Fm.Fe (Fm.part (Rq.Wd l)))∧Below w.heap.size w w':=by
 have h:=Sn l ao cap n w hl hn hN hz;rw[Pg kY ⟨Fm.NW.toArray⟩ l (by decide) (by decide),Pg bType ⟨Fm.nType.toArray⟩ l (by decide) (by decide)] at h;exact h
end Go.Proofs.YtjmndjmhjleabaaGreatDoor