/- Small texts, one behind the other: PmParse, PmGet, FsE, FsF, FsG. -/
import Derived.Test.YtjmndjmhjleabaaGreatDoorPk30
import Derived.Test.YtjmndjmhjleabaaGreatDoorPk28
import Derived.Test.YtjmndjmhjleabaaGreatDoorPk5
import Derived.Test.YtjmndjmhjleabaaGreatDoorPk10
import Derived.Test.YtjmndjmhjleabaaGreatDoorPk31
import Derived.Test.YtjmndjmhjleabaaGreatDoorPk18
import Derived.Test.YtjmndjmhjleabaaGreatDoorPk33
import Derived.Test.YtjmndjmhjleabaaGreatDoorFlB
set_option maxHeartbeats 4000000
set_option maxRecDepth 100000
open Go.Proofs.Tryz
namespace Go.Proofs.YtjmndjmhjleabaaGreatDoor
open Go.RowKit
theorem O5 (s:ByteArray) (w:World) (hs:s.size≤100000) (hv:Ch.aM s.data.toList=false) :
 Calls prog 168 #[.string s] w fun e w'=>o7 w (Pm.dS s.data.toList) e w':=by
 have HM:Hid (Pm.dS s.data.toList=.inl 3):=by unfold Hid Pm.dS;rw [if_pos hv]
 have HV:=H9 (fE s (w.alloc (.cells #[.string ⟨#[]⟩,.slice none 0 0] 172)) (by unfold maxLen;omega));rw [hv] at HV;have HB:Hid (Below w.heap.size w (w.alloc (.cells #[.string ⟨#[]⟩,.slice none 0 0] 172))):=(Below.refl _ _).alloc (Nat.le_refl _) _;have c0:(w.alloc (.cells #[.string ⟨#[]⟩,.slice none 0 0] 172)).cell? ⟨w.heap.size,0,none⟩=some (.string ⟨#[]⟩):=World.cell?_alloc_mark w _ _ _ 0;have c1:(w.alloc (.cells #[.string ⟨#[]⟩,.slice none 0 0] 172)).cell? ⟨w.heap.size,1,none⟩=some (.slice none 0 0):=World.cell?_alloc_mark w _ _ _ 1;clear hv;go_enter func168,ntmps168;go_wp2_with fail
 refine HV.o.mono ?_;rintro e w1 ⟨rfl,hw⟩;subst hw;go_wp2;refine bodyPost_ret (v:=.tuple #[.agg #[.string ⟨#[]⟩,.slice none 0 0],.int .i64 3]) (by simp [results,results168,go_sem,c0,c1]) rfl (o7.bad (c:=3) HM.o ?_);first | exact HB.o | exact (HB.o.setCell (Nat.le_refl _) _).setCell (Nat.le_refl _) _
theorem KT (s:ByteArray) (w:World) (hs:s.size≤100000) (hv:Ch.aM s.data.toList=true) :
 Calls prog 168 #[.string s] w fun e w'=>o7 w (Pm.dS s.data.toList) e w':=by
 have hM:=Pm.WM s.data.toList hv;have HV:=H9 (fE s (w.alloc (.cells #[.string ⟨#[]⟩,.slice none 0 0] 172)) (by unfold maxLen;omega));rw [hv] at HV;have Q9:∀ (fn:Fn) (first cap:Array Value) (w:World),(Instr.makeFunc fn first cap).run prog w=.ok (.func fn first cap) w:=fun _ _ _ _=>rfl;have hb1:Below w.heap.size w (w.alloc (.cells #[.string ⟨#[]⟩,.slice none 0 0] 172)):=(Below.refl _ _).alloc (Nat.le_refl _) _;have r1:(w.alloc (.cells #[.string ⟨#[]⟩,.slice none 0 0] 172)).heap[w.heap.size]? = some (.cells #[.string ⟨#[]⟩,.slice none 0 0] 172 (0,0)):=heap_alloc_new w _;have hb2:Below (w.heap.size+1) (w.alloc (.cells #[.string ⟨#[]⟩,.slice none 0 0] 172)) ((w.alloc (.cells #[.string ⟨#[]⟩,.slice none 0 0] 172)).alloc (.cells #[.string s,.int .i64 0] 248)):=(Below.refl _ _).alloc (by simp) _;have hz:(w.alloc (.cells #[.string ⟨#[]⟩,.slice none 0 0] 172)).heap.size=w.heap.size+1:=by simp
 have hrd:bL ((w.alloc (.cells #[.string ⟨#[]⟩,.slice none 0 0] 172)).alloc (.cells #[.string s,.int .i64 0] 248)) (w.heap.size+1) s 0:=by
  have:=heap_alloc_new (w.alloc (.cells #[.string ⟨#[]⟩,.slice none 0 0] 172)) (.cells #[.string s,.int .i64 0] 248);rw [hz] at this;exact this
 have hr2:((w.alloc (.cells #[.string ⟨#[]⟩,.slice none 0 0] 172)).alloc (.cells #[.string s,.int .i64 0] 248)).heap[w.heap.size]? = some (.cells #[.string ⟨#[]⟩,.slice none 0 0] 172 (0,0)):=(hb2.block _ (by omega)).trans r1;have HB:Hid (Below w.heap.size w ((w.alloc (.cells #[.string ⟨#[]⟩,.slice none 0 0] 172)).alloc (.cells #[.string s,.int .i64 0] 248))):=hb1.trans (hb2.mono (by omega));have hz2:((w.alloc (.cells #[.string ⟨#[]⟩,.slice none 0 0] 172)).alloc (.cells #[.string s,.int .i64 0] 248)).heap.size=w.heap.size+2:=by simp
 have HR:=H9 hr2;clear hv;cases hm:Pm.AP s.data.toList 0 with
 | inl c =>
   rw [hm] at hM;have HM:=H9 hM;have HC:=H9 (O4 s (w.heap.size+1) w.heap.size _ hrd hs c hm);clear hM hm hb1 r1 hb2 hz hrd hr2 hz2;go_enter func168,ntmps168;go_wp2_with fail
   refine HV.o.mono ?_;rintro e w1 ⟨rfl,hw⟩;subst hw;go_wp2_with fail
   refine HC.o.mono ?_;rintro e w2 ⟨rfl,t2⟩;have R2:=H9 (t2.row HR.o (fun e=>by unfold only at e;omega));have B2:=H9 (HB.o.trans (t2.below (B:=w.heap.size) (fun k e=>by unfold only at e;omega) (by simp;omega)));clear t2;have c0:w2.cell? ⟨w.heap.size,0,none⟩=some (.string ⟨#[]⟩):=cell_of_row w2 _ 0 _ _ _ R2.out;have c1:w2.cell? ⟨w.heap.size,1,none⟩=some (.slice none 0 0):=cell_of_row w2 _ 1 _ _ _ R2.out;have f0:w2.frozen? ⟨w.heap.size,0,none⟩=false:=frozen_of_row w2 _ 0 _ _ R2.out;have f1:w2.frozen? ⟨w.heap.size,1,none⟩=false:=frozen_of_row w2 _ 1 _ _ R2.out;go_wp2;refine bodyPost_ret (v:=.tuple #[.agg #[.string ⟨#[]⟩,.slice none 0 0],.int .i64 (c:Int)]) (by simp [results,results168,go_sem,c0,c1]) rfl (o7.bad (c:=c) HM.o ?_);first | exact B2.out | exact (B2.out.setCell (Nat.le_refl _) _).setCell (Nat.le_refl _) _
 | inr x =>
   rw [hm] at hM;have HM:=H9 hM;have HC:=H9 (KS s (w.heap.size+1) w.heap.size _ hrd hr2 hs x hm);rw [hz2] at HC;clear hM hm hb1 r1 hb2 hz hrd hr2 hz2;go_enter func168,ntmps168;go_wp2_with fail
   refine HV.o.mono ?_;rintro e w1 ⟨rfl,hw⟩;subst hw;go_wp2_with fail
   refine HC.o.mono ?_;rintro e w2 ⟨rfl,⟨wo,ps,ao,cap,hd,hwo,hps,ho⟩,t2⟩;have R2:=H9 hd;have B2:=H9 (HB.o.trans (t2.below (B:=w.heap.size) (fun k e=>by unfold both at e;omega) (by simp;omega)));have HO:=H9 ho;have HE:Hid (Tv (.inr x) wo ps 0):=⟨rfl,hwo,hps⟩;clear t2 ho hwo hps hd;have c0:w2.cell? ⟨w.heap.size,0,none⟩=some (.string wo):=cell_of_row w2 _ 0 _ _ _ R2.out;have c1:w2.cell? ⟨w.heap.size,1,none⟩=some (.slice ao ps.length cap):=cell_of_row w2 _ 1 _ _ _ R2.out;have f0:w2.frozen? ⟨w.heap.size,0,none⟩=false:=frozen_of_row w2 _ 0 _ _ R2.out;have f1:w2.frozen? ⟨w.heap.size,1,none⟩=false:=frozen_of_row w2 _ 1 _ _ R2.out;go_wp2;refine bodyPost_ret (v:=.tuple #[.agg #[.string wo,.slice ao ps.length cap],.int .i64 0]) (by simp [results,results168,go_sem,c0,c1]) rfl ⟨wo,ps,ao,cap,0,rfl,by rw [HM.o];exact HE.o,?_,?_⟩
   · first
      | exact HO.o.mono (by omega)
      | (refine aD.turns (S:=fun k=>k=w.heap.size) (aD.turns (S:=fun k=>k=w.heap.size) (HO.o.mono (by omega)) (Turns.setCell _ _ _ _ rfl) (fun a e e2=>?_)) (Turns.setCell _ _ _ _ rfl) (fun a e e2=>?_) <;> (have:=(HO.o.block a e).1;omega))
   · first | exact B2.out | exact (B2.out.setCell (Nat.le_refl _) _).setCell (Nat.le_refl _) _
theorem tX (s:ByteArray) (w:World) (hs:s.size≤100000) :
 Calls prog 168 #[.string s] w fun e w'=>o7 w (Pm.dS s.data.toList) e w':=by
 cases hv:Ch.aM s.data.toList
 · exact O5 s w hs hv
 · exact KT s w hs hv
theorem vH (word:ByteArray) (l:List (ByteArray×ByteArray)) (name:ByteArray) (ao:Option Addr) (cap n:Nat) (w:World) (hl:bS w ao cap n (aC l)) (hn:l.length=n) (hN:n≤1000000) (hz:∀ p∈l,p.2.size≤1000000) :
 Calls prog 194 #[.agg #[.string word,.slice ao n cap],.string name] w fun e w'=>e=.returned (.tuple #[.string ((fM name l).getD ⟨#[]⟩),.bool (fM name l).isSome])∧Below w.heap.size w w':=by
 subst hn;have HI:=H9 hl;have HZ:=H9 hz;have HB0:=H9 (BoxM.start w word ao l.length cap);have HF:=H9 (rT l name ao cap l.length _ (hl.stay HB0.o.below) rfl hN);clear hl hz;go_enter func194,ntmps194;go_wp2_with fail
 refine HF.o.mono ?_;rintro e w1 ⟨r,rfl,hf,b1⟩;have HB1:=H9 (HB0.o.keep b1);clear b1;rcases hf with ⟨rfl,hno⟩ | ⟨k,hk,rfl,he,TN⟩
 · have HR:=H9 (IW hno);clear hno;go_wp2;go_ret2;exact ⟨by rw [HR.o];rfl,HB1.o.below⟩
 · have HR:=H9 (Pv hk TN he);have t0:decide ((k:Int)<0)=false:=by rw [decide_eq_false_iff_not];omega
   obtain ⟨bb,oo,rfl,hcs⟩:=(HI.o.stay HB1.o.below).lit (by rw [iG];omega);have hc1:w1.cell? ⟨bb,oo+k*2+1,none⟩=some (.string l[k].2):=by
    have:=hcs _ _ (jv l k hk).2;rwa [←Nat.add_assoc] at this
   have c1:=HB1.o.cells.2;have hk':(k:Int)<l.length:=by omega
   have vU:=H9 (fun W=>gB l[k].2 W (HZ.o _ (List.getElem_mem hk)));clear hcs he TN;generalize l[k]=p at *;go_wp2_with fail
   refine (vU.o _).mono ?_;rintro e w2 ⟨rfl,b2⟩;have HB2:=H9 (HB1.o.keep b2);clear b2;go_wp2;go_ret2;exact ⟨by rw [HR.o];rfl,HB2.o.below⟩
theorem vI (name:ByteArray):∀ ps:List (ByteArray×ByteArray),(fM name ps).map (fun x=>x.data.toList)=Fm.get name.data.toList (gT ps)
 | []=>rfl
 | p :: t => by
   have ih:=vI name t;unfold Fm.get gT at *;rw [List.map_cons,List.find?_cons];unfold fM;by_cases h:p.1.data.toList=name.data.toList
   · rw [if_pos h];have:((p.1.data.toList,p.2.data.toList).1==name.data.toList)=true:=by simpa using h
     rw [this];rfl
   · rw [if_neg h];have:((p.1.data.toList,p.2.data.toList).1==name.data.toList)=false:=by simpa using h
     rw [this];exact ih
theorem Fw {name:ByteArray} {ps:List (ByteArray×ByteArray)} {x:ByteArray} (h:fM name ps=some x):Fm.get name.data.toList (gT ps)=some x.data.toList∧∃ p∈ps,p.2=x:=by
 refine ⟨by rw [←vI,h];rfl,?_⟩;induction ps with
 | nil=>cases h
 | cons p t ih =>
   unfold fM at h;split at h
   · injection h with h;exact ⟨p,List.mem_cons_self ..,h⟩
   · obtain ⟨q,hq,e⟩:=ih h;exact ⟨q,List.mem_cons_of_mem _ hq,e⟩
theorem Lc {name:ByteArray} {ps:List (ByteArray×ByteArray)} (h:fM name ps=none):Fm.get name.data.toList (gT ps)=none:=by rw [←vI,h];rfl
theorem TP (name low:ByteArray) (l:List (ByteArray×ByteArray)) (h:Ch.lower name.data.toList=low.data.toList) (h2:Ch.lower low.data.toList=low.data.toList):Fd.one (Fd.vals name l)=Fm.one (Rq.vals (Rq.SQ l) low.data.toList):=by
 rw [Rq.qC l low h2,Fd.fK name low l (h.trans h2.symm)];unfold Fd.one Fm.one;match Fd.vals low l with
 | []=>rfl
 | [v]=>rfl
 | _::_::_=>rfl
theorem mR {w W W':World} {cs:Array Value} {t:Nat} (h:W.heap[w.heap.size]? = some (.cells cs t (0,0))) (hb:Below W.heap.size W W'):W'.heap[w.heap.size]? = some (.cells cs t (0,0)):=(hb.block _ (Array.getElem?_eq_some_iff.1 h).1).trans h
theorem Fx (word:ByteArray) (ps:List (ByteArray×ByteArray)) (ao:Option Addr) (cap n:Nat) (w:World) (hl:bS w ao cap n (aC ps)) (hn:ps.length=n) (hN:n≤1000) (hz:∀ p∈ps,p.2.size≤100000) :
 Calls prog 308 #[.agg #[.string word,.slice ao n cap]] w fun e w'=>e=.returned (Fm.qN (Fm.file (gT ps)))∧Below w.heap.size w w':=by
 have hb0:Below w.heap.size w (w.alloc (.cells #[.string word,.slice ao n cap] 172)):=(Below.refl _ _).alloc (Nat.le_refl _) _;have Rc:=H9 (vH word ps ⟨#[102,105,108,101,110,97,109,101,42]⟩ ao cap n _ (hl.stay hb0) hn (by omega) (fun p hp=>by have:=hz p hp;omega));have HG2:Hid (∀ W,Below (w.alloc (.cells #[.string word,.slice ao n cap] 172)).heap.size (w.alloc (.cells #[.string word,.slice ao n cap] 172)) W→Calls prog 194 #[.agg #[.string word,.slice ao n cap],.string ⟨#[102,105,108,101,110,97,109,101]⟩] W fun e w'=>e=.returned (.tuple #[.string ((fM ⟨#[102,105,108,101,110,97,109,101]⟩ ps).getD ⟨#[]⟩),.bool (fM ⟨#[102,105,108,101,110,97,109,101]⟩ ps).isSome])∧Below W.heap.size W w'):=fun W hW=>vH word ps _ ao cap n W ((hl.stay hb0).stay hW) hn (by omega) (fun p hp=>by have:=hz p hp;omega);have HB0:=H9 hb0;have HZ:=H9 hz;have F8:=H9 (heap_alloc_new w (.cells #[.string word,.slice ao n cap] 172));clear hl hz hb0;cases h1:fM ⟨#[102,105,108,101,110,97,109,101,42]⟩ ps with
 | some x =>
   obtain ⟨g1,p,hp,rfl⟩:=Fw h1;have hxz:=HZ.o p hp;rw [h1] at Rc;have hF:Fm.file (gT ps)=(Fm.coded p.2.data.toList).map Fm.safe:=by
    unfold Fm.file;have:Fm.get Fm.ER (gT ps)=some p.2.data.toList:=g1;rw [this]
   have HF:=H9 hF;have Zu:=H9 (fun W=>Lb p.2 W (by omega));clear h1 g1 hp hF;cases hc:Fm.coded p.2.data.toList with
   | none =>
     rw [hc] at Zu HF;clear hc;go_enter func308,ntmps308;go_wp2_with fail
     refine Rc.o.mono ?_;rintro e w1 ⟨rfl,hb1⟩;go_wp2_with fail
     refine (Zu.o _).mono ?_;rintro e w2 ⟨rfl,hb2⟩;unfold Fm.qN;have Cx:=H9 (then_ (then_ HB0.o hb1) hb2);clear hb1 hb2;go_wp2;go_ret2;exact ⟨by rw [HF.o];rfl,Cx.o⟩
   | some y =>
     have hy:=Fm.Pq hc;rw [Ch.aQ] at hy;rw [hc] at Zu HF;have Zq:=H9 (fun W=>IK ⟨y.toArray⟩ W (by show y.toArray.size≤_;rw [List.size_toArray];omega));clear hc;go_enter func308,ntmps308;go_wp2_with fail
     refine Rc.o.mono ?_;rintro e w1 ⟨rfl,hb1⟩;go_wp2_with fail
     refine (Zu.o _).mono ?_;rintro e w2 ⟨rfl,hb2⟩;unfold Fm.qN;go_wp2_with fail
     refine (Zq.o _).mono ?_;rintro e w3 ⟨rfl,hb3⟩;have Cx:=H9 (then_ (then_ (then_ HB0.o hb1) hb2) hb3);clear hb1 hb2 hb3;go_wp2;go_ret2;exact ⟨by rw [HF.o];rfl,Cx.o⟩
 | none =>
   have g1:=Lc h1;rw [h1] at Rc;clear h1;cases h2:fM ⟨#[102,105,108,101,110,97,109,101]⟩ ps with
   | some x =>
     obtain ⟨g2,p,hp,rfl⟩:=Fw h2;have hxz:=HZ.o p hp;rw [h2] at HG2;have hF:Fm.file (gT ps)=some (Fm.safe p.2.data.toList):=by
      unfold Fm.file;have e1:Fm.get Fm.ER (gT ps)=none:=g1;have e2:Fm.get Fm.Kc (gT ps)=some p.2.data.toList:=g2;rw [e1,e2]
     have HF:=H9 hF;have Zq:=H9 (fun W=>IK p.2 W (by omega));clear h2 g1 g2 hp hF;go_enter func308,ntmps308;go_wp2_with fail
     refine Rc.o.mono ?_;rintro e w1 ⟨rfl,hb1⟩;have hr1:=mR F8.o hb1;have c0:w1.cell? ⟨w.heap.size,0,none⟩=some (.string word):=cell_of_row w1 _ 0 _ _ _ hr1;have c1:w1.cell? ⟨w.heap.size,1,none⟩=some (.slice ao n cap):=cell_of_row w1 _ 1 _ _ _ hr1;have HB1:=H9 hb1;clear hb1 hr1;go_wp2_with fail
     refine (HG2.o _ HB1.o).mono ?_;rintro e w2 ⟨rfl,hb2⟩;go_wp2_with fail
     refine (Zq.o _).mono ?_;rintro e w3 ⟨rfl,hb3⟩;have Cx:=H9 (then_ (then_ (then_ HB0.o HB1.o) hb2) hb3);clear hb2 hb3;go_wp2;go_ret2;exact ⟨by rw [HF.o];rfl,Cx.o⟩
   | none =>
     have g2:=Lc h2;rw [h2] at HG2;have hF:Fm.file (gT ps)=some []:=by
      unfold Fm.file;have e1:Fm.get Fm.ER (gT ps)=none:=g1;have e2:Fm.get Fm.Kc (gT ps)=none:=g2;rw [e1,e2]
     have HF:=H9 hF;clear h2 g1 g2 hF;go_enter func308,ntmps308;go_wp2_with fail
     refine Rc.o.mono ?_;rintro e w1 ⟨rfl,hb1⟩;have hr1:=mR F8.o hb1;have c0:w1.cell? ⟨w.heap.size,0,none⟩=some (.string word):=cell_of_row w1 _ 0 _ _ _ hr1;have c1:w1.cell? ⟨w.heap.size,1,none⟩=some (.slice ao n cap):=cell_of_row w1 _ 1 _ _ _ hr1;have HB1:=H9 hb1;clear hb1 hr1;go_wp2_with fail
     refine (HG2.o _ HB1.o).mono ?_;rintro e w2 ⟨rfl,hb2⟩;have Cx:=H9 (then_ (then_ HB0.o HB1.o) hb2);clear hb2;go_wp2;go_ret2;exact ⟨by rw [HF.o];rfl,Cx.o⟩
def ZQ (m:Nat ⊕ List Pm.nS) (ps:List (ByteArray×ByteArray)) (code:Nat):Prop :=
 match m with
 | .inl c=>code=c∧c≠0
 | .inr x=>code=0∧gT ps=x
def sj (w:World) (m:Nat ⊕ List Pm.nS) (e:Ending) (w':World):Prop :=
 ∃ word ps ao cap,∃ code:Nat,e=.returned (.tuple #[.agg #[.string word,.slice ao ps.length cap],.int .i64 (code:Int)])∧ZQ m ps code∧aD w' w.heap.size 202 2 ao cap ps.length (aC ps)∧Below w.heap.size w w'
theorem sj.bad {w w':World} {m:Nat ⊕ List Pm.nS} {c:Nat} (hm:m=.inl c) (hc:c≠0) (hb:Below w.heap.size w w'):sj w m (.returned (.tuple #[.agg #[.string ⟨#[]⟩,.slice none 0 0],.int .i64 (c:Int)])) w':=by
 subst hm;exact ⟨⟨#[]⟩,[],none,0,c,rfl,⟨rfl,hc⟩,aD.nil _ _ _ _,hb⟩
def mW:ByteArray:=⟨#[67,111,110,116,101,110,116,45,68,105,115,112,111,115,105,116,105,111,110]⟩
def bType:ByteArray:=⟨#[67,111,110,116,101,110,116,45,84,121,112,101]⟩
structure Qe (w W:World):Prop where
 row:W.heap[w.heap.size]? = some (.cells #[.string ⟨#[]⟩,.slice none 0 0] 172 (0,0))
 below:Below w.heap.size w W
theorem Qe.stay {w W W':World} (h:Qe w W) (hb:Below W.heap.size W W'):Qe w W':=⟨mR h.row hb,then_ h.below hb⟩
theorem Qe.cells {w W:World} (h:Qe w W):W.cell? ⟨w.heap.size,0,none⟩=some (.string ⟨#[]⟩)∧W.cell? ⟨w.heap.size,1,none⟩=some (.slice none 0 0)∧W.frozen? ⟨w.heap.size,0,none⟩=false∧W.frozen? ⟨w.heap.size,1,none⟩=false :=
 ⟨cell_of_row W _ 0 _ _ _ h.row,cell_of_row W _ 1 _ _ _ h.row,frozen_of_row W _ 0 _ _ h.row,frozen_of_row W _ 1 _ _ h.row⟩
theorem yU (l:List (ByteArray×ByteArray)) (ao:Option Addr) (cap n:Nat) (w:World) (hl:bS w ao cap n (aC l)) (hn:l.length=n) (hN:n≤1000) (hz:∀ p∈l,p.1.size≤2000∧p.2.size≤2000) :
 Calls prog 307 #[.slice ao n cap] w fun e w'=>sj w (Fm.vG (Fd.one (Fd.vals mW l))) e w':=by
 have hR0:Qe w (w.alloc (.cells #[.string ⟨#[]⟩,.slice none 0 0] 172)):=⟨heap_alloc_new w _,(Below.refl _ _).alloc (Nat.le_refl _) _⟩;have HO:=H9 (om l mW ao cap n _ (hl.stay ((Below.refl _ _).alloc (Nat.le_refl _) (.cells #[.string ⟨#[]⟩,.slice none 0 0] 172))) hn (by omega) hz (by decide));have F8:=H9 hR0;have hd2:(Fd.one (Fd.vals mW l)).1.length≤2000:=by
  have hm:∀ v∈Fd.vals mW l,v.size≤2000:=fun v hv=>by
   obtain ⟨p,hp,rfl⟩:=Fd.qD hv;exact (hz p hp).2
  unfold Fd.one;split
  · exact Nat.zero_le _
  · rename_i v hv;have:=hm v (by rw [hv];simp);rw [Ch.aQ];exact this
  · exact Nat.zero_le _
 unfold mH at HO;unfold mW at HO;clear hl hz hR0;generalize hd:Fd.one (Fd.vals mW l)=d at *;have hd':Fd.one (Fd.vals ⟨#[67,111,110,116,101,110,116,45,68,105,115,112,111,115,105,116,105,111,110]⟩ l)=d:=hd;rw [hd'] at HO;clear hd hd';by_cases h0:d.2=0
 · have t0:((d.2:Int) != 0)=false:=by rw [h0];rfl
   have Nz:=H9 (fun W=>tX ⟨d.1.toArray⟩ W (by show d.1.toArray.size≤_;rw [List.size_toArray];omega));have hdt:(⟨d.1.toArray⟩:ByteArray).data.toList=d.1:=rfl;rw [hdt] at Nz;generalize (⟨d.1.toArray⟩:ByteArray)=vt at *;clear hdt;cases hm:Pm.dS d.1 with
   | inl c =>
     have hc:=Fm.zY hm;have HD:=H9 (Fm.TL h0 hm);rw [hm] at Nz;have tc:((c:Int) != 0)=true:=by rw [bne_iff_ne];omega
     have HC:=H9 hc;clear hm hc h0;go_enter func307,ntmps307;go_wp2_with fail
     refine HO.o.mono ?_;rintro e w1 ⟨rfl,hb1⟩;have HR1:=H9 (F8.o.stay hb1);clear hb1;go_wp2_with fail
     refine (Nz.o w1).mono ?_;rintro e w2 ⟨word,ps,bX,cap2,code,rfl,⟨rfl,hwd,hps⟩,hO2,hb2⟩;have hR2:=(HR1.o.stay hb2).stay ((Below.refl _ _).alloc (Nat.le_refl _) (.cells #[.string word,.slice bX ps.length cap2] 172));obtain ⟨c0,c1,f0,f1⟩:=hR2.cells;have HR2:=H9 hR2;clear hb2 hR2 hwd hps hO2;go_wp2;refine bodyPost_ret (v:=.tuple #[.agg #[.string ⟨#[]⟩,.slice none 0 0],.int .i64 (code:Int)]) (by simp [results,results307,go_sem,c0,c1]) rfl (sj.bad HD.o HC.o ?_);first | exact HR2.o.below | exact (HR2.o.below.setCell (Nat.le_refl _) _).setCell (Nat.le_refl _) _
   | inr x =>
     by_cases hx:x.1=Fm.DN
     · have HD:=H9 (Fm.WY h0 hm hx);rw [hm] at Nz;clear hm h0;go_enter func307,ntmps307;go_wp2_with fail
       refine HO.o.mono ?_;rintro e w1 ⟨rfl,hb1⟩;have HR1:=H9 (F8.o.stay hb1);clear hb1;go_wp2_with fail
       refine (Nz.o w1).mono ?_;rintro e w2 ⟨word,ps,bX,cap2,code,rfl,⟨rfl,hwd,hps⟩,hO2,hb2⟩;have hR2:=(HR1.o.stay hb2).stay ((Below.refl _ _).alloc (Nat.le_refl _) (.cells #[.string word,.slice bX ps.length cap2] 172));obtain ⟨c0,c1,f0,f1⟩:=hR2.cells;have HR2:=H9 hR2;have tw:(word.toList==[102,111,114,109,45,100,97,116,97])=true:=by
        rw [beq_iff_eq,Lib.toList_data,hwd,hx];rfl
       have F9:=H9 hps;have hz1:=HR1.o.below.size;have hgt:w.heap.size<w1.heap.size:=(Array.getElem?_eq_some_iff.1 HR1.o.row).1;have jH:=H9 ((hO2.mono (show w.heap.size≤w1.heap.size from hz1)).stay ((Below.refl _ _).alloc (Nat.le_refl _) (.cells #[.string word,.slice bX ps.length cap2] 172)));have HNe:Hid (∀ a,bX=some a→a.block≠w.heap.size):=fun a e=>by have:=(hO2.block a e).1;omega
       clear hb2 hR2 hwd hps hO2;go_wp2;refine bodyPost_ret (v:=.tuple #[.agg #[.string word,.slice bX ps.length cap2],.int .i64 0]) (by simp [results,results307,go_sem,c0,c1]) rfl ⟨word,ps,bX,cap2,0,rfl,?_,?_,?_⟩
       · rw [HD.o];exact ⟨rfl,F9.o⟩
       · exact ((jH.o.turns (Turns.setCell (fun k=>k=w.heap.size) _ _ _ rfl) (fun a e=>HNe.o a e)).turns (Turns.setCell (fun k=>k=w.heap.size) _ _ _ rfl) (fun a e=>HNe.o a e))
       · exact (HR2.o.below.setCell (Nat.le_refl _) _).setCell (Nat.le_refl _) _
     · have HD:=H9 (Fm.Pp h0 hm hx);rw [hm] at Nz;clear hm h0;go_enter func307,ntmps307;go_wp2_with fail
       refine HO.o.mono ?_;rintro e w1 ⟨rfl,hb1⟩;have HR1:=H9 (F8.o.stay hb1);clear hb1;go_wp2_with fail
       refine (Nz.o w1).mono ?_;rintro e w2 ⟨word,ps,bX,cap2,code,rfl,⟨rfl,hwd,hps⟩,hO2,hb2⟩;have hR2:=(HR1.o.stay hb2).stay ((Below.refl _ _).alloc (Nat.le_refl _) (.cells #[.string word,.slice bX ps.length cap2] 172));obtain ⟨c0,c1,f0,f1⟩:=hR2.cells;have HR2:=H9 hR2;have tw:(word.toList==[102,111,114,109,45,100,97,116,97])=false:=by
        rw [beq_eq_false_iff_ne,Lib.toList_data,hwd];exact hx
       clear hb2 hR2 hwd hps hO2;go_wp2;refine bodyPost_ret (v:=.tuple #[.agg #[.string ⟨#[]⟩,.slice none 0 0],.int .i64 11]) (by simp [results,results307,go_sem,c0,c1]) rfl (sj.bad (c:=11) HD.o (by decide) ?_);first | exact HR2.o.below | exact (HR2.o.below.setCell (Nat.le_refl _) _).setCell (Nat.le_refl _) _
 · have t0:((d.2:Int) != 0)=true:=by rw [bne_iff_ne];omega
   have HD:Hid (Fm.vG d=.inl d.2):=by unfold Hid Fm.vG;rw [if_pos h0]
   have H0:=H9 h0;clear h0;go_enter func307,ntmps307;go_wp2_with fail
   refine HO.o.mono ?_;rintro e w1 ⟨rfl,hb1⟩;have oD:=F8.o.stay hb1;obtain ⟨c0,c1,f0,f1⟩:=oD.cells;have HR1:=H9 oD;clear hb1 oD;go_wp2;refine bodyPost_ret (v:=.tuple #[.agg #[.string ⟨#[]⟩,.slice none 0 0],.int .i64 (d.2:Int)]) (by simp [results,results307,go_sem,c0,c1]) rfl (sj.bad HD.o H0.o ?_);first | exact HR1.o.below | exact (HR1.o.below.setCell (Nat.le_refl _) _).setCell (Nat.le_refl _) _
def Fm.Jg:Nat ⊕ Fm.V6→Value
 | .inl c=>.tuple #[.agg #[.string ⟨#[]⟩,.string ⟨#[]⟩,.string ⟨#[]⟩,.slice none 0 0],.int .i64 (c:Int)]
 | .inr p=>.tuple #[.agg #[.string ⟨p.name.toArray⟩,.string ⟨p.file.toArray⟩,.string ⟨p.type.toArray⟩,.slice none 0 0],.int .i64 0]
structure Qf (w W:World):Prop where
 row:W.heap[w.heap.size]? = some (.cells #[.string ⟨#[]⟩,.string ⟨#[]⟩,.string ⟨#[]⟩,.slice none 0 0] 70 (0,0))
 below:Below w.heap.size w W
theorem Qf.stay {w W W':World} (h:Qf w W) (hb:Below W.heap.size W W'):Qf w W':=⟨mR h.row hb,then_ h.below hb⟩
theorem Qf.cells {w W:World} (h:Qf w W):W.cell? ⟨w.heap.size,0,none⟩=some (.string ⟨#[]⟩)∧W.cell? ⟨w.heap.size,1,none⟩=some (.string ⟨#[]⟩)∧W.cell? ⟨w.heap.size,2,none⟩=some (.string ⟨#[]⟩)∧W.cell? ⟨w.heap.size,3,none⟩=some (.slice none 0 0)∧W.frozen? ⟨w.heap.size,0,none⟩=false∧W.frozen? ⟨w.heap.size,1,none⟩=false∧W.frozen? ⟨w.heap.size,2,none⟩=false∧W.frozen? ⟨w.heap.size,3,none⟩=false :=
 ⟨cell_of_row W _ 0 _ _ _ h.row,cell_of_row W _ 1 _ _ _ h.row,cell_of_row W _ 2 _ _ _ h.row,cell_of_row W _ 3 _ _ _ h.row,frozen_of_row W _ 0 _ _ h.row,frozen_of_row W _ 1 _ _ h.row,frozen_of_row W _ 2 _ _ h.row,frozen_of_row W _ 3 _ _ h.row⟩
theorem Bn {w W:World} (h:Below w.heap.size w W) (v0 v1 v2 v3:Value):Below w.heap.size w ((((W.setCell ⟨w.heap.size,0,none⟩ v0).setCell ⟨w.heap.size,1,none⟩ v1).setCell ⟨w.heap.size,2,none⟩ v2).setCell ⟨w.heap.size,3,none⟩ v3) :=
 (((h.setCell (Nat.le_refl _) _).setCell (Nat.le_refl _) _).setCell (Nat.le_refl _) _).setCell (Nat.le_refl _) _
theorem Xi (l:List (ByteArray×ByteArray)) (ao:Option Addr) (cap n:Nat) (w:World) (hl:bS w ao cap n (aC l)) (hn:l.length=n) (hN:n≤1000) (hz:∀ p∈l,p.1.size≤2000∧p.2.size≤2000) :
 Calls prog 305 #[.slice ao n cap] w fun e w'=>e=.returned (Fm.Jg (Fm.kN (Fd.one (Fd.vals mW l)) (Fd.one (Fd.vals bType l))))∧Below w.heap.size w w':=by
 have hR0:Qf w (w.alloc (.cells #[.string ⟨#[]⟩,.string ⟨#[]⟩,.string ⟨#[]⟩,.slice none 0 0] 70)):=⟨heap_alloc_new w _,(Below.refl _ _).alloc (Nat.le_refl _) _⟩;have HL:Hid (∀ W,Below w.heap.size w W→bS W ao cap n (aC l)):=fun W hW=>hl.stay hW;have HD:=H9 (yU l ao cap n _ (HL.o _ hR0.below) hn hN hz);have ZR:Hid (∀ W,Below w.heap.size w W→Calls prog 117 #[.slice ao n cap,.string bType] W fun e w'=>e=.returned (mH (Fd.one (Fd.vals bType l)))∧Below W.heap.size W w'):=fun W hW=>om l bType ao cap n W (HL.o W hW) hn (by omega) hz (by decide);have F8:=H9 hR0;have hd2:(Fd.one (Fd.vals mW l)).1.length≤2000:=by
  have hm:∀ v∈Fd.vals mW l,v.size≤2000:=fun v hv=>by
   obtain ⟨p,hp,rfl⟩:=Fd.qD hv;exact (hz p hp).2
  unfold Fd.one;split
  · exact Nat.zero_le _
  · rename_i v hv;have:=hm v (by rw [hv];simp);rw [Ch.aQ];exact this
  · exact Nat.zero_le _
 unfold mH at ZR;clear hl hz hR0 HL;generalize Fd.one (Fd.vals mW l)=d at *;generalize Fd.one (Fd.vals bType l)=t at *;have hP:=Fm.IU d t;unfold bType at ZR;cases hdi:Fm.vG d with
 | inl c =>
   rw [hdi] at HD hP;have HP:Hid (Fm.kN d t=.inl c):=hP;clear hdi hP ZR;go_enter func305,ntmps305;go_wp2_with fail
   refine HD.o.mono ?_;rintro e w1 ⟨word,ps,bX,cap2,code,rfl,⟨rfl,hc⟩,kW,hb1⟩;have tc:((code:Int) != 0)=true:=by rw [bne_iff_ne];omega
   have oD:=(F8.o.stay hb1).stay ((Below.refl _ _).alloc (Nat.le_refl _) (.cells #[.string word,.slice bX ps.length cap2] 172));obtain ⟨c0,c1,c2,c3,f0,f1,f2,f3⟩:=oD.cells;have HR1:=H9 oD;clear hb1 oD kW hc;go_wp2;refine bodyPost_ret (v:=.tuple #[.agg #[.string ⟨#[]⟩,.string ⟨#[]⟩,.string ⟨#[]⟩,.slice none 0 0],.int .i64 (code:Int)]) (by simp [results,results305,go_sem,c0,c1,c2,c3]) rfl ⟨by rw [HP.o];rfl,?_⟩;first | exact HR1.o.below | exact Bn HR1.o.below _ _ _ _
 | inr xs =>
   have je:=Fm.TM hdi;rw [hdi] at HD hP;have hP:Fm.kN d t=Fm.partOf xs t:=hP;clear hdi;go_enter func305,ntmps305;go_wp2_with fail
   refine HD.o.mono ?_;rintro e w1 ⟨word,ps,bX,cap2,code,rfl,⟨rfl,hps⟩,kW,hb1⟩;subst hps;obtain ⟨n2,hn2⟩:∃ n2,ps.length=n2:=⟨_,rfl⟩;rw [hn2] at kW;rw [hn2];have hn8:n2≤8:=by rw [←hn2,←nI];exact je.1
   have Zv:∀ p∈ps,p.2.size≤2000:=fun p hp=>by
    have:=je.2 (p.1.data.toList,p.2.data.toList) (List.mem_map.2 ⟨p,hp,rfl⟩);have h2:p.2.data.toList.length≤d.1.length:=this;rw [Ch.aQ] at h2;omega
   have WZ:Below w1.heap.size w1 (w1.alloc (.cells #[.string word,.slice bX n2 cap2] 172)):=(Below.refl _ _).alloc (Nat.le_refl _) _;have oD:=(F8.o.stay hb1).stay WZ;have hM1:=heap_alloc_new w1 (.cells #[.string word,.slice bX n2 cap2] 172);have hV1:=kW.jg.stay WZ;have LC:=H9 (vH word ps ⟨#[110,97,109,101]⟩ bX cap2 n2 _ hV1 hn2 (by omega) (fun p hp=>by have:=Zv p hp;omega));have KY:Hid (∀ W,Below (w1.alloc (.cells #[.string word,.slice bX n2 cap2] 172)).heap.size (w1.alloc (.cells #[.string word,.slice bX n2 cap2] 172)) W→Calls prog 308 #[.agg #[.string word,.slice bX n2 cap2]] W fun e w'=>e=.returned (Fm.qN (Fm.file (gT ps)))∧Below W.heap.size W w'):=fun W hW=>Fx word ps bX cap2 n2 W (hV1.stay hW) hn2 (by omega) (fun p hp=>by have:=Zv p hp;omega);have HR1:=H9 oD;have Un:=H9 hM1;have HP:=H9 hP;have HVz:=H9 Zv
   clear hb1 kW hn2 Zv WZ oD hM1 hV1 hP je HD;generalize hW1:(w1.alloc (.cells #[.string word,.slice bX n2 cap2] 172))=W1 at *;have m0:W1.cell? ⟨w1.heap.size,0,none⟩=some (.string word):=cell_of_row W1 _ 0 _ _ _ Un.o;have m1:W1.cell? ⟨w1.heap.size,1,none⟩=some (.slice bX n2 cap2):=cell_of_row W1 _ 1 _ _ _ Un.o;cases hnm:fM ⟨#[110,97,109,101]⟩ ps with
   | none =>
     have g1:Fm.get Fm.GL (gT ps)=none:=Lc hnm;rw [hnm] at LC;have Xj:Hid (Fm.kN d t=.inl 6):=by unfold Hid;rw [HP.o];unfold Fm.partOf;rw [g1]
     clear hnm g1 HP KY ZR;go_wp2_with fail
     refine LC.o.mono ?_;rintro e w3 ⟨rfl,hb3⟩;have Qg:=HR1.o.stay hb3;obtain ⟨c0,c1,c2,c3,f0,f1,f2,f3⟩:=Qg.cells;have HR3:=H9 Qg;clear hb3 Qg hW1 m0 m1;go_wp2;refine bodyPost_ret (v:=.tuple #[.agg #[.string ⟨#[]⟩,.string ⟨#[]⟩,.string ⟨#[]⟩,.slice none 0 0],.int .i64 6]) (by simp [results,results305,go_sem,c0,c1,c2,c3]) rfl ⟨by rw [Xj.o];rfl,?_⟩;first | exact HR3.o.below | exact Bn HR3.o.below _ _ _ _
   | some x =>
     obtain ⟨g1,_⟩:=Fw hnm;have g1:Fm.get Fm.GL (gT ps)=some x.data.toList:=g1;rw [hnm] at LC;cases hfl:Fm.file (gT ps) with
     | none =>
       rw [hfl] at KY;have Xj:Hid (Fm.kN d t=.inl 5):=by unfold Hid;rw [HP.o];unfold Fm.partOf;rw [g1,hfl]
       clear hnm g1 HP ZR hfl;go_wp2_with fail
       refine LC.o.mono ?_;rintro e w3 ⟨rfl,hb3⟩;have HB3:=H9 hb3;have Ur:=mR Un.o hb3;have n0:w3.cell? ⟨w1.heap.size,0,none⟩=some (.string word):=cell_of_row w3 _ 0 _ _ _ Ur;have n1:w3.cell? ⟨w1.heap.size,1,none⟩=some (.slice bX n2 cap2):=cell_of_row w3 _ 1 _ _ _ Ur;clear hb3 Ur m0 m1 hW1;go_wp2_with fail
       refine (KY.o w3 HB3.o).mono ?_;rintro e w4 ⟨rfl,hb4⟩;unfold Fm.qN;have ZT:=(HR1.o.stay HB3.o).stay hb4;obtain ⟨c0,c1,c2,c3,f0,f1,f2,f3⟩:=ZT.cells;have HR4:=H9 ZT;clear hb4 ZT n0 n1;go_wp2;refine bodyPost_ret (v:=.tuple #[.agg #[.string ⟨#[]⟩,.string ⟨#[]⟩,.string ⟨#[]⟩,.slice none 0 0],.int .i64 5]) (by simp [results,results305,go_sem,c0,c1,c2,c3]) rfl ⟨by rw [Xj.o];rfl,?_⟩;first | exact HR4.o.below | exact Bn HR4.o.below _ _ _ _
     | some f =>
       rw [hfl] at KY;have hP2:Fm.kN d t=if t.2=9 then .inl 9 else .inr ⟨x.data.toList,f,t.1⟩:=by rw [HP.o];unfold Fm.partOf;rw [g1,hfl]
       clear hnm g1 HP hfl;by_cases h9:t.2=9
       · rw [if_pos h9] at hP2;have Xj:=H9 hP2;have t9:((t.2:Int)==9)=true:=by rw [h9];rfl
         have HT9:=H9 h9;clear hP2 h9;go_wp2_with fail
         refine LC.o.mono ?_;rintro e w3 ⟨rfl,hb3⟩;have HB3:=H9 hb3;have Ur:=mR Un.o hb3;have n0:w3.cell? ⟨w1.heap.size,0,none⟩=some (.string word):=cell_of_row w3 _ 0 _ _ _ Ur;have n1:w3.cell? ⟨w1.heap.size,1,none⟩=some (.slice bX n2 cap2):=cell_of_row w3 _ 1 _ _ _ Ur;clear hb3 Ur m0 m1 hW1;go_wp2_with fail
         refine (KY.o w3 HB3.o).mono ?_;rintro e w4 ⟨rfl,hb4⟩;unfold Fm.qN;have HR4:=H9 ((HR1.o.stay HB3.o).stay hb4);clear hb4 n0 n1;go_wp2_with fail
         refine (ZR.o w4 HR4.o.below).mono ?_;rintro e w5 ⟨rfl,hb5⟩;have VF:=HR4.o.stay hb5;obtain ⟨c0,c1,c2,c3,f0,f1,f2,f3⟩:=VF.cells;have Pg:=H9 VF;clear hb5 VF;go_wp2;refine bodyPost_ret (v:=.tuple #[.agg #[.string ⟨#[]⟩,.string ⟨#[]⟩,.string ⟨#[]⟩,.slice none 0 0],.int .i64 (t.2:Int)]) (by simp [results,results305,go_sem,c0,c1,c2,c3]) rfl ⟨by rw [Xj.o,HT9.o];rfl,?_⟩;first | exact Pg.o.below | exact Bn Pg.o.below _ _ _ _
       · rw [if_neg h9] at hP2;have Xj:=H9 hP2;have t9:((t.2:Int)==9)=false:=by rw [beq_eq_false_iff_ne];omega
         clear hP2 h9;go_wp2_with fail
         refine LC.o.mono ?_;rintro e w3 ⟨rfl,hb3⟩;have HB3:=H9 hb3;have Ur:=mR Un.o hb3;have n0:w3.cell? ⟨w1.heap.size,0,none⟩=some (.string word):=cell_of_row w3 _ 0 _ _ _ Ur;have n1:w3.cell? ⟨w1.heap.size,1,none⟩=some (.slice bX n2 cap2):=cell_of_row w3 _ 1 _ _ _ Ur;clear hb3 Ur m0 m1 hW1;go_wp2_with fail
         refine (KY.o w3 HB3.o).mono ?_;rintro e w4 ⟨rfl,hb4⟩;unfold Fm.qN;have HR4:=H9 ((HR1.o.stay HB3.o).stay hb4);clear hb4 n0 n1;go_wp2_with fail
         refine (ZR.o w4 HR4.o.below).mono ?_;rintro e w5 ⟨rfl,hb5⟩;have VF:=HR4.o.stay hb5;obtain ⟨c0,c1,c2,c3,f0,f1,f2,f3⟩:=VF.cells;have Pg:=H9 VF;clear hb5 VF;go_wp2;refine bodyPost_ret (v:=.tuple #[.agg #[.string x,.string ⟨f.toArray⟩,.string ⟨t.1.toArray⟩,.slice none 0 0],.int .i64 0]) (by simp [results,results305,go_sem,c0,c1,c2,c3]) rfl ⟨by rw [Xj.o];unfold Fm.Jg;simp only [],?_⟩;exact Bn Pg.o.below _ _ _ _
theorem Us (l:List (ByteArray×ByteArray)) (ao:Option Addr) (cap n:Nat) (w:World) (hl:bS w ao cap n (aC l)) (hn:l.length=n) (hN:n≤1000) (hz:∀ p∈l,p.1.size≤2000∧p.2.size≤2000) :
 Calls prog 305 #[.slice ao n cap] w fun e w'=>e=.returned (Fm.Jg (Fm.part (Rq.SQ l)))∧Below w.heap.size w w':=by
 have h:=Xi l ao cap n w hl hn hN hz;rw [TP mW ⟨Fm.Sb.toArray⟩ l (by decide) (by decide),TP bType ⟨Fm.nType.toArray⟩ l (by decide) (by decide)] at h;exact h
end Go.Proofs.YtjmndjmhjleabaaGreatDoor