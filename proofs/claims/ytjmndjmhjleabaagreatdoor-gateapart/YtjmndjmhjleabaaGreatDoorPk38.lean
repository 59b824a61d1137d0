/- Small texts, one behind the other: PmParse, PmGet, FsE, FsF, FsG. -/
import Derived.Test.YtjmndjmhjleabaaGreatDoorAl
import Derived.Test.YtjmndjmhjleabaaGreatDoorAm
import Derived.Test.YtjmndjmhjleabaaGreatDoorPk29
import Derived.Test.YtjmndjmhjleabaaGreatDoorPk26
import Derived.Test.YtjmndjmhjleabaaGreatDoorPk5
import Derived.Test.YtjmndjmhjleabaaGreatDoorPk10
import Derived.Test.YtjmndjmhjleabaaGreatDoorPk27
import Derived.Test.YtjmndjmhjleabaaGreatDoorPk16
import Derived.Test.YtjmndjmhjleabaaGreatDoorPk31
import Derived.Test.YtjmndjmhjleabaaGreatDoorFlB
set_option maxHeartbeats 4000000
set_option maxRecDepth 100000
open Go.Proofs.Tryz
namespace Go.Proofs.YtjmndjmhjleabaaGreatDoor
open Go.RowKit
theorem Sv (s:ay)(w:World)(hs:s.size<=100000)(hv:Ch.iy s.data.toList=false):
 Calls prog 168 #[.string s] w fun e w'=>uU w (Pm.ku s.data.toList) e w':=by
 have HM:Hid (Pm.ku s.data.toList=.inl 3):=by unfold Hid Pm.ku;rw[if_pos hv]
 have HV:=H9 (kU s (w.alloc (.cells #[.string ⟨#[]⟩,.slice none 0 0] 172)) (by unfold maxLen;omega));rw[hv] at HV;have HB:Hid (aj w (w.alloc (.cells #[.string ⟨#[]⟩,.slice none 0 0] 172))):=(fJ _ _).alloc (aM _) _;have c0:(w.alloc (.cells #[.string ⟨#[]⟩,.slice none 0 0] 172)).cell? ⟨w.heap.size,0,none⟩=some (.string ⟨#[]⟩):=World.cell?_alloc_mark w _ _ _ 0;have c1:(w.alloc (.cells #[.string ⟨#[]⟩,.slice none 0 0] 172)).cell? ⟨w.heap.size,1,none⟩=some (.slice none 0 0):=World.cell?_alloc_mark w _ _ _ 1;clear hv;go_enter func168,ntmps168;go_wp2_with fail
 refine HV.o.mono ?_;rintro e w1 ⟨rfl,hw⟩;subst hw;go_wp2;refine gy (v:=.tuple #[.agg #[.string ⟨#[]⟩,.slice none 0 0],.int .i64 3]) (by simp[results,results168,go_sem,c0,c1]) rfl (uU.bad (c:=3) HM.o ?_);first | exact HB.o | exact(HB.o.setCell (aM _) _).setCell (aM _) _
theorem Oi (s:ay)(w:World)(hs:s.size<=100000)(hv:Ch.iy s.data.toList=true):
 Calls prog 168 #[.string s] w fun e w'=>uU w (Pm.ku s.data.toList) e w':=by
 have hM:=Pm.Zq s.data.toList hv;have HV:=H9 (kU s (w.alloc (.cells #[.string ⟨#[]⟩,.slice none 0 0] 172)) (by unfold maxLen;omega));rw[hv] at HV;have UL:∀(fn:Fn) (first cap:Array Value) (w:World),(Instr.makeFunc fn first cap).run prog w=.ok (.func fn first cap) w:=fun _ _ _ _=>rfl;have hb1:aj w (w.alloc (.cells #[.string ⟨#[]⟩,.slice none 0 0] 172)):=(fJ _ _).alloc (aM _) _;have r1:(w.alloc (.cells #[.string ⟨#[]⟩,.slice none 0 0] 172)).heap[w.heap.size]? = some (.cells #[.string ⟨#[]⟩,.slice none 0 0] 172 (0,0)):=fI w _;have hb2:Below (w.heap.size+1) (w.alloc (.cells #[.string ⟨#[]⟩,.slice none 0 0] 172)) ((w.alloc (.cells #[.string ⟨#[]⟩,.slice none 0 0] 172)).alloc (.cells #[.string s,.int .i64 0] 248)):=(fJ _ _).alloc (by simp) _;have hz:(w.alloc (.cells #[.string ⟨#[]⟩,.slice none 0 0] 172)).heap.size=w.heap.size+1:=by simp
 have hrd:je ((w.alloc (.cells #[.string ⟨#[]⟩,.slice none 0 0] 172)).alloc (.cells #[.string s,.int .i64 0] 248)) (w.heap.size+1) s 0:=by
  have:=fI (w.alloc (.cells #[.string ⟨#[]⟩,.slice none 0 0] 172)) (.cells #[.string s,.int .i64 0] 248);rw[hz] at this;exact this
 have hr2:((w.alloc (.cells #[.string ⟨#[]⟩,.slice none 0 0] 172)).alloc (.cells #[.string s,.int .i64 0] 248)).heap[w.heap.size]? = some (.cells #[.string ⟨#[]⟩,.slice none 0 0] 172 (0,0)):=(hb2.block _ (by omega)).trans r1;have HB:Hid (aj w ((w.alloc (.cells #[.string ⟨#[]⟩,.slice none 0 0] 172)).alloc (.cells #[.string s,.int .i64 0] 248))):=hb1.trans (hb2.mono (by omega));have hz2:((w.alloc (.cells #[.string ⟨#[]⟩,.slice none 0 0] 172)).alloc (.cells #[.string s,.int .i64 0] 248)).heap.size=w.heap.size+2:=by simp
 have HR:=H9 hr2;clear hv;cases hm:Pm.Ey s.data.toList 0 with
 | inl c =>
   rw[hm] at hM;have HM:=H9 hM;have HC:=H9 (Sq s (w.heap.size+1) w.heap.size _ hrd hs c hm);clear hM hm hb1 r1 hb2 hz hrd hr2 hz2;go_enter func168,ntmps168;go_wp2_with fail
   refine HV.o.mono ?_;rintro e w1 ⟨rfl,hw⟩;subst hw;go_wp2_with fail
   refine HC.o.mono ?_;rintro e w2 ⟨rfl,t2⟩;have R2:=H9 (t2.row HR.o (fun e=>by unfold only at e;omega));have B2:=H9 (HB.o.trans (t2.below (B:=w.heap.size) (fun k e=>by unfold only at e;omega) (by simp;omega)));clear t2;have c0:w2.cell? ⟨w.heap.size,0,none⟩=some (.string ⟨#[]⟩):=fK w2 _ 0 _ _ _ R2.out;have c1:w2.cell? ⟨w.heap.size,1,none⟩=some (.slice none 0 0):=fK w2 _ 1 _ _ _ R2.out;have f0:w2.frozen? ⟨w.heap.size,0,none⟩=false:=fM w2 _ 0 _ _ R2.out;have f1:w2.frozen? ⟨w.heap.size,1,none⟩=false:=fM w2 _ 1 _ _ R2.out;go_wp2;refine gy (v:=.tuple #[.agg #[.string ⟨#[]⟩,.slice none 0 0],.int .i64 (c:Int)]) (by simp[results,results168,go_sem,c0,c1]) rfl (uU.bad (c:=c) HM.o ?_);first | exact B2.out | exact(B2.out.setCell (aM _) _).setCell (aM _) _
 | inr x =>
   rw[hm] at hM;have HM:=H9 hM;have HC:=H9 (Oh s (w.heap.size+1) w.heap.size _ hrd hr2 hs x hm);rw[hz2] at HC;clear hM hm hb1 r1 hb2 hz hrd hr2 hz2;go_enter func168,ntmps168;go_wp2_with fail
   refine HV.o.mono ?_;rintro e w1 ⟨rfl,hw⟩;subst hw;go_wp2_with fail
   refine HC.o.mono ?_;rintro e w2 ⟨rfl,⟨wo,ps,ao,cap,hd,hwo,hps,ho⟩,t2⟩;have R2:=H9 hd;have B2:=H9 (HB.o.trans (t2.below (B:=w.heap.size) (fun k e=>by unfold both at e;omega) (by simp;omega)));have HO:=H9 ho;have HE:Hid (Wx (.inr x) wo ps 0):=⟨rfl,hwo,hps⟩;clear t2 ho hwo hps hd;have c0:w2.cell? ⟨w.heap.size,0,none⟩=some (.string wo):=fK w2 _ 0 _ _ _ R2.out;have c1:w2.cell? ⟨w.heap.size,1,none⟩=some (.slice ao ps.length cap):=fK w2 _ 1 _ _ _ R2.out;have f0:w2.frozen? ⟨w.heap.size,0,none⟩=false:=fM w2 _ 0 _ _ R2.out;have f1:w2.frozen? ⟨w.heap.size,1,none⟩=false:=fM w2 _ 1 _ _ R2.out;go_wp2;refine gy (v:=.tuple #[.agg #[.string wo,.slice ao ps.length cap],.int .i64 0]) (by simp[results,results168,go_sem,c0,c1]) rfl ⟨wo,ps,ao,cap,0,rfl,by rw[HM.o];exact HE.o,?_,?_⟩
   . first
      | exact HO.o.mono (by omega)
      | (refine gV.turns (S:=fun k=>k=w.heap.size) (gV.turns (S:=fun k=>k=w.heap.size) (HO.o.mono (by omega)) (Turns.setCell _ _ _ _ rfl) (fun a e e2=>?_)) (Turns.setCell _ _ _ _ rfl) (fun a e e2=>?_) <;> (have:=(HO.o.block a e).1;omega))
   . first | exact B2.out | exact(B2.out.setCell (aM _) _).setCell (aM _) _
theorem yT (s:ay)(w:World)(hs:s.size<=100000):
 Calls prog 168 #[.string s] w fun e w'=>uU w (Pm.ku s.data.toList) e w':=by
 cases hv:Ch.iy s.data.toList
 . exact Sv s w hs hv
 . exact Oi s w hs hv
theorem zZ (word:ay)(l:au)(name:ay)(ao:ak)(cap n:Nat)(w:World)(hl:jo w ao cap n (gU l))(hn:l.length=n)(hN:n<=1000000)(hz:∀p∈l,p.2.size<=1000000):
 Calls prog 194 #[.agg #[.string word,.slice ao n cap],.string name] w fun e w'=>e=.returned (.tuple #[.string ((lq name l).getD ⟨#[]⟩),.bool (lq name l).isSome])∧aj w w':=by
 subst hn;have HI:=H9 hl;have HZ:=H9 hz;have HB0:=H9 (BoxM.start w word ao l.length cap);have HF:=H9 (xO l name ao cap l.length _ (hl.stay HB0.o.below) rfl hN);clear hl hz;go_enter func194,ntmps194;go_wp2_with fail
 refine HF.o.mono ?_;rintro e w1 ⟨r,rfl,hf,b1⟩;have HB1:=H9 (HB0.o.keep b1);clear b1;rcases hf with ⟨rfl,hno⟩ | ⟨k,hk,rfl,he,WO⟩
 . have HR:=H9 (LW hno);clear hno;go_wp2;go_ret2;exact⟨by rw[HR.o];rfl,HB1.o.below⟩
 . have HR:=H9 (SQ hk WO he);have t0:decide ((k:Int)<0)=false:=by rw[bQ];omega
   obtain⟨bb,oo,rfl,hcs⟩:=(HI.o.stay HB1.o.below).lit (by rw[mW];omega);have hc1:w1.cell? ⟨bb,oo+k*2+1,none⟩=some (.string l[k].2):=by
    have:=hcs _ _ (nY l k hk).2;rwa[<-bL] at this
   have c1:=HB1.o.cells.2;have hk':(k:Int)<l.length:=by omega
   have Am:=H9 (fun W=>lM l[k].2 W (HZ.o _ (aC hk)));clear hcs he WO;generalize l[k]=p at *;go_wp2_with fail
   refine(Am.o _).mono ?_;rintro e w2 ⟨rfl,b2⟩;have HB2:=H9 (HB1.o.keep b2);clear b2;go_wp2;go_ret2;exact⟨by rw[HR.o];rfl,HB2.o.below⟩
theorem Aa (name:ay):∀ps:au,(lq name ps).map (fun x=>x.data.toList)=Fm.get name.data.toList (mq ps)
 | []=>rfl
 | p :: t => by
   have ih:=Aa name t;unfold Fm.get mq at *;rw[List.map_cons,List.find?_cons];unfold lq;by_cases h:p.1.data.toList=name.data.toList
   . rw[if_pos h];have:((p.1.data.toList,p.2.data.toList).1==name.data.toList)=true:=by simpa using h
     rw[this];rfl
   . rw[if_neg h];have:((p.1.data.toList,p.2.data.toList).1==name.data.toList)=false:=by simpa using h
     rw[this];exact ih
theorem Jy {name:ay}{ps:au}{x:ay}(h:lq name ps=some x):Fm.get name.data.toList (mq ps)=some x.data.toList∧∃p∈ps,p.2=x:=by
 refine⟨by rw[<-Aa,h];rfl,?_⟩;induction ps with
 | nil=>cases h
 | cons p t ih =>
   unfold lq at h;split at h
   . injection h with h;exact⟨p,cK ..,h⟩
   . obtain⟨q,hq,e⟩:=ih h;exact⟨q,cO _ hq,e⟩
theorem OD {name:ay}{ps:au}(h:lq name ps=none):Fm.get name.data.toList (mq ps)=none:=by rw[<-Aa,h];rfl
theorem WQ (name low:ay)(l:au)(h:Ch.lower name.data.toList=low.data.toList)(h2:Ch.lower low.data.toList=low.data.toList):Fd.one (Fd.vals name l)=Fm.one (Rq.vals (Rq.V5 l) low.data.toList):=by
 rw[Rq.wB l low h2,Fd.lg name low l (h.trans h2.symm)];unfold Fd.one Fm.one;match Fd.vals low l with
 | []=>rfl
 | [v]=>rfl
 | _::_::_=>rfl
theorem rZ {w W W':World}{cs:Array Value}{t:Nat}(h:W.heap[w.heap.size]? = some (.cells cs t (0,0)))(hb:aj W W'):W'.heap[w.heap.size]? = some (.cells cs t (0,0)):=(hb.block _ (aL.1 h).1).trans h
theorem Jz (word:ay)(ps:au)(ao:ak)(cap n:Nat)(w:World)(hl:jo w ao cap n (gU ps))(hn:ps.length=n)(hN:n<=1000)(hz:∀p∈ps,p.2.size<=100000):
 Calls prog 308 #[.agg #[.string word,.slice ao n cap]] w fun e w'=>e=.returned (Fm.wP (Fm.file (mq ps)))∧aj w w':=by
 have hb0:aj w (w.alloc (.cells #[.string word,.slice ao n cap] 172)):=(fJ _ _).alloc (aM _) _;have UO:=H9 (zZ word ps ⟨#[102,105,108,101,110,97,109,101,42]⟩ ao cap n _ (hl.stay hb0) hn (by omega) (fun p hp=>by have:=hz p hp;omega));have HG2:Hid (∀W,Below (w.alloc (.cells #[.string word,.slice ao n cap] 172)).heap.size (w.alloc (.cells #[.string word,.slice ao n cap] 172)) W->Calls prog 194 #[.agg #[.string word,.slice ao n cap],.string ⟨#[102,105,108,101,110,97,109,101]⟩] W fun e w'=>e=.returned (.tuple #[.string ((lq ⟨#[102,105,108,101,110,97,109,101]⟩ ps).getD ⟨#[]⟩),.bool (lq ⟨#[102,105,108,101,110,97,109,101]⟩ ps).isSome])∧aj W w'):=fun W hW=>zZ word ps _ ao cap n W ((hl.stay hb0).stay hW) hn (by omega) (fun p hp=>by have:=hz p hp;omega);have HB0:=H9 hb0;have HZ:=H9 hz;have J7:=H9 (fI w (.cells #[.string word,.slice ao n cap] 172));clear hl hz hb0;cases h1:lq ⟨#[102,105,108,101,110,97,109,101,42]⟩ ps with
 | some x =>
   obtain⟨g1,p,hp,rfl⟩:=Jy h1;have hxz:=HZ.o p hp;rw[h1] at UO;have hF:Fm.file (mq ps)=(Fm.coded p.2.data.toList).map Fm.safe:=by
    unfold Fm.file;have:Fm.get Fm.Jc (mq ps)=some p.2.data.toList:=g1;rw[this]
   have HF:=H9 hF;have HDc:=H9 (fun W=>OC p.2 W (by omega));clear h1 g1 hp hF;cases hc:Fm.coded p.2.data.toList with
   | none =>
     rw[hc] at HDc HF;clear hc;go_enter func308,ntmps308;go_wp2_with fail
     refine UO.o.mono ?_;rintro e w1 ⟨rfl,hb1⟩;go_wp2_with fail
     refine(HDc.o _).mono ?_;rintro e w2 ⟨rfl,hb2⟩;unfold Fm.wP;have F4:=H9 (then_ (then_ HB0.o hb1) hb2);clear hb1 hb2;go_wp2;go_ret2;exact⟨by rw[HF.o];rfl,F4.o⟩
   | some y =>
     have hy:=Fm.SN hc;rw[Ch.iD] at hy;rw[hc] at HDc HF;have HSf:=H9 (fun W=>LK ⟨y.toArray⟩ W (by show y.toArray.size<=_;rw[bM];omega));clear hc;go_enter func308,ntmps308;go_wp2_with fail
     refine UO.o.mono ?_;rintro e w1 ⟨rfl,hb1⟩;go_wp2_with fail
     refine(HDc.o _).mono ?_;rintro e w2 ⟨rfl,hb2⟩;unfold Fm.wP;go_wp2_with fail
     refine(HSf.o _).mono ?_;rintro e w3 ⟨rfl,hb3⟩;have F4:=H9 (then_ (then_ (then_ HB0.o hb1) hb2) hb3);clear hb1 hb2 hb3;go_wp2;go_ret2;exact⟨by rw[HF.o];rfl,F4.o⟩
 | none =>
   have g1:=OD h1;rw[h1] at UO;clear h1;cases h2:lq ⟨#[102,105,108,101,110,97,109,101]⟩ ps with
   | some x =>
     obtain⟨g2,p,hp,rfl⟩:=Jy h2;have hxz:=HZ.o p hp;rw[h2] at HG2;have hF:Fm.file (mq ps)=some (Fm.safe p.2.data.toList):=by
      unfold Fm.file;have e1:Fm.get Fm.Jc (mq ps)=none:=g1;have e2:Fm.get Fm.Ns (mq ps)=some p.2.data.toList:=g2;rw[e1,e2]
     have HF:=H9 hF;have HSf:=H9 (fun W=>LK p.2 W (by omega));clear h2 g1 g2 hp hF;go_enter func308,ntmps308;go_wp2_with fail
     refine UO.o.mono ?_;rintro e w1 ⟨rfl,hb1⟩;have hr1:=rZ J7.o hb1;have c0:w1.cell? ⟨w.heap.size,0,none⟩=some (.string word):=fK w1 _ 0 _ _ _ hr1;have c1:w1.cell? ⟨w.heap.size,1,none⟩=some (.slice ao n cap):=fK w1 _ 1 _ _ _ hr1;have HB1:=H9 hb1;clear hb1 hr1;go_wp2_with fail
     refine(HG2.o _ HB1.o).mono ?_;rintro e w2 ⟨rfl,hb2⟩;go_wp2_with fail
     refine(HSf.o _).mono ?_;rintro e w3 ⟨rfl,hb3⟩;have F4:=H9 (then_ (then_ (then_ HB0.o HB1.o) hb2) hb3);clear hb2 hb3;go_wp2;go_ret2;exact⟨by rw[HF.o];rfl,F4.o⟩
   | none =>
     have g2:=OD h2;rw[h2] at HG2;have hF:Fm.file (mq ps)=some []:=by
      unfold Fm.file;have e1:Fm.get Fm.Jc (mq ps)=none:=g1;have e2:Fm.get Fm.Ns (mq ps)=none:=g2;rw[e1,e2]
     have HF:=H9 hF;clear h2 g1 g2 hF;go_enter func308,ntmps308;go_wp2_with fail
     refine UO.o.mono ?_;rintro e w1 ⟨rfl,hb1⟩;have hr1:=rZ J7.o hb1;have c0:w1.cell? ⟨w.heap.size,0,none⟩=some (.string word):=fK w1 _ 0 _ _ _ hr1;have c1:w1.cell? ⟨w.heap.size,1,none⟩=some (.slice ao n cap):=fK w1 _ 1 _ _ _ hr1;have HB1:=H9 hb1;clear hb1 hr1;go_wp2_with fail
     refine(HG2.o _ HB1.o).mono ?_;rintro e w2 ⟨rfl,hb2⟩;have F4:=H9 (then_ (then_ HB0.o HB1.o) hb2);clear hb2;go_wp2;go_ret2;exact⟨by rw[HF.o];rfl,F4.o⟩
def acu (m:Nat ⊕ List Pm.tL)(ps:au)(code:Nat):Prop :=
 match m with
 | .inl c=>code=c∧c≠0
 | .inr x=>code=0∧mq ps=x
def xW (w:World)(m:Nat ⊕ List Pm.tL)(e:Ending)(w':World):Prop :=
 ∃word ps ao cap,∃code:Nat,e=.returned (.tuple #[.agg #[.string word,.slice ao ps.length cap],.int .i64 (code:Int)])∧acu m ps code∧gV w' w.heap.size 202 2 ao cap ps.length (gU ps)∧aj w w'
theorem xW.bad {w w':World}{m:Nat ⊕ List Pm.tL}{c:Nat}(hm:m=.inl c)(hc:c≠0)(hb:aj w w'):xW w m (.returned (.tuple #[.agg #[.string ⟨#[]⟩,.slice none 0 0],.int .i64 (c:Int)])) w':=by
 subst hm;exact⟨⟨#[]⟩,[],none,0,c,rfl,⟨rfl,hc⟩,gV.nil _ _ _ _,hb⟩
def sw:ay:=⟨#[67,111,110,116,101,110,116,45,68,105,115,112,111,115,105,116,105,111,110]⟩
def bType:ay:=⟨#[67,111,110,116,101,110,116,45,84,121,112,101]⟩
structure TH (w W:World):Prop where
 row:W.heap[w.heap.size]? = some (.cells #[.string ⟨#[]⟩,.slice none 0 0] 172 (0,0))
 below:aj w W
theorem TH.stay {w W W':World}(h:TH w W)(hb:aj W W'):TH w W':=⟨rZ h.row hb,then_ h.below hb⟩
theorem TH.cells {w W:World}(h:TH w W):W.cell? ⟨w.heap.size,0,none⟩=some (.string ⟨#[]⟩)∧W.cell? ⟨w.heap.size,1,none⟩=some (.slice none 0 0)∧W.frozen? ⟨w.heap.size,0,none⟩=false∧W.frozen? ⟨w.heap.size,1,none⟩=false :=
 ⟨fK W _ 0 _ _ _ h.row,fK W _ 1 _ _ _ h.row,fM W _ 0 _ _ h.row,fM W _ 1 _ _ h.row⟩
theorem CP (l:au)(ao:ak)(cap n:Nat)(w:World)(hl:jo w ao cap n (gU l))(hn:l.length=n)(hN:n<=1000)(hz:∀p∈l,p.1.size<=2000∧p.2.size<=2000):
 Calls prog 307 #[.slice ao n cap] w fun e w'=>xW w (Fm.zY (Fd.one (Fd.vals sw l))) e w':=by
 have hR0:TH w (w.alloc (.cells #[.string ⟨#[]⟩,.slice none 0 0] 172)):=⟨fI w _,(fJ _ _).alloc (aM _) _⟩;have HO:=H9 (uh l sw ao cap n _ (hl.stay ((fJ _ _).alloc (aM _) (.cells #[.string ⟨#[]⟩,.slice none 0 0] 172))) hn (by omega) hz (by decide));have J7:=H9 hR0;have hd2:(Fd.one (Fd.vals sw l)).1.length<=2000:=by
  have hm:∀v∈Fd.vals sw l,v.size<=2000:=fun v hv=>by
   obtain⟨p,hp,rfl⟩:=Fd.wD hv;exact(hz p hp).2
  unfold Fd.one;split
  . exact aA _
  . rename_i v hv;have:=hm v (by rw[hv];simp);rw[Ch.iD];exact this
  . exact aA _
 unfold rQ at HO;unfold sw at HO;clear hl hz hR0;generalize hd:Fd.one (Fd.vals sw l)=d at *;have hd':Fd.one (Fd.vals ⟨#[67,111,110,116,101,110,116,45,68,105,115,112,111,115,105,116,105,111,110]⟩ l)=d:=hd;rw[hd'] at HO;clear hd hd';by_cases h0:d.2=0
 . have t0:((d.2:Int) != 0)=false:=by rw[h0];rfl
   have QO:=H9 (fun W=>yT ⟨d.1.toArray⟩ W (by show d.1.toArray.size<=_;rw[bM];omega));have hdt:(⟨d.1.toArray⟩:ay).data.toList=d.1:=rfl;rw[hdt] at QO;generalize (⟨d.1.toArray⟩:ay)=vt at *;clear hdt;cases hm:Pm.ku d.1 with
   | inl c =>
     have hc:=Fm.DU hm;have HD:=H9 (Fm.WL h0 hm);rw[hm] at QO;have tc:((c:Int) != 0)=true:=by rw[cZ];omega
     have HC:=H9 hc;clear hm hc h0;go_enter func307,ntmps307;go_wp2_with fail
     refine HO.o.mono ?_;rintro e w1 ⟨rfl,hb1⟩;have HR1:=H9 (J7.o.stay hb1);clear hb1;go_wp2_with fail
     refine(QO.o w1).mono ?_;rintro e w2 ⟨word,ps,jy,cap2,code,rfl,⟨rfl,hwd,hps⟩,hO2,hb2⟩;have hR2:=(HR1.o.stay hb2).stay ((fJ _ _).alloc (aM _) (.cells #[.string word,.slice jy ps.length cap2] 172));obtain⟨c0,c1,f0,f1⟩:=hR2.cells;have HR2:=H9 hR2;clear hb2 hR2 hwd hps hO2;go_wp2;refine gy (v:=.tuple #[.agg #[.string ⟨#[]⟩,.slice none 0 0],.int .i64 (code:Int)]) (by simp[results,results307,go_sem,c0,c1]) rfl (xW.bad HD.o HC.o ?_);first | exact HR2.o.below | exact(HR2.o.below.setCell (aM _) _).setCell (aM _) _
   | inr x =>
     by_cases hx:x.1=Fm.Hl
     . have HD:=H9 (Fm.ZB h0 hm hx);rw[hm] at QO;clear hm h0;go_enter func307,ntmps307;go_wp2_with fail
       refine HO.o.mono ?_;rintro e w1 ⟨rfl,hb1⟩;have HR1:=H9 (J7.o.stay hb1);clear hb1;go_wp2_with fail
       refine(QO.o w1).mono ?_;rintro e w2 ⟨word,ps,jy,cap2,code,rfl,⟨rfl,hwd,hps⟩,hO2,hb2⟩;have hR2:=(HR1.o.stay hb2).stay ((fJ _ _).alloc (aM _) (.cells #[.string word,.slice jy ps.length cap2] 172));obtain⟨c0,c1,f0,f1⟩:=hR2.cells;have HR2:=H9 hR2;have tw:(word.toList==[102,111,114,109,45,100,97,116,97])=true:=by
        rw[aT,Lib.toList_data,hwd,hx];rfl
       have J8:=H9 hps;have hz1:=HR1.o.below.size;have hgt:w.heap.size<w1.heap.size:=(aL.1 HR1.o.row).1;have oD:=H9 ((hO2.mono (show w.heap.size<=w1.heap.size from hz1)).stay ((fJ _ _).alloc (aM _) (.cells #[.string word,.slice jy ps.length cap2] 172)));have HNe:Hid (∀a,jy=some a->a.block≠w.heap.size):=fun a e=>by have:=(hO2.block a e).1;omega
       clear hb2 hR2 hwd hps hO2;go_wp2;refine gy (v:=.tuple #[.agg #[.string word,.slice jy ps.length cap2],.int .i64 0]) (by simp[results,results307,go_sem,c0,c1]) rfl ⟨word,ps,jy,cap2,0,rfl,?_,?_,?_⟩
       . rw[HD.o];exact⟨rfl,J8.o⟩
       . exact((oD.o.turns (Turns.setCell (fun k=>k=w.heap.size) _ _ _ rfl) (fun a e=>HNe.o a e)).turns (Turns.setCell (fun k=>k=w.heap.size) _ _ _ rfl) (fun a e=>HNe.o a e))
       . exact(HR2.o.below.setCell (aM _) _).setCell (aM _) _
     . have HD:=H9 (Fm.SL h0 hm hx);rw[hm] at QO;clear hm h0;go_enter func307,ntmps307;go_wp2_with fail
       refine HO.o.mono ?_;rintro e w1 ⟨rfl,hb1⟩;have HR1:=H9 (J7.o.stay hb1);clear hb1;go_wp2_with fail
       refine(QO.o w1).mono ?_;rintro e w2 ⟨word,ps,jy,cap2,code,rfl,⟨rfl,hwd,hps⟩,hO2,hb2⟩;have hR2:=(HR1.o.stay hb2).stay ((fJ _ _).alloc (aM _) (.cells #[.string word,.slice jy ps.length cap2] 172));obtain⟨c0,c1,f0,f1⟩:=hR2.cells;have HR2:=H9 hR2;have tw:(word.toList==[102,111,114,109,45,100,97,116,97])=false:=by
        rw[aS,Lib.toList_data,hwd];exact hx
       clear hb2 hR2 hwd hps hO2;go_wp2;refine gy (v:=.tuple #[.agg #[.string ⟨#[]⟩,.slice none 0 0],.int .i64 11]) (by simp[results,results307,go_sem,c0,c1]) rfl (xW.bad (c:=11) HD.o (by decide) ?_);first | exact HR2.o.below | exact(HR2.o.below.setCell (aM _) _).setCell (aM _) _
 . have t0:((d.2:Int) != 0)=true:=by rw[cZ];omega
   have HD:Hid (Fm.zY d=.inl d.2):=by unfold Hid Fm.zY;rw[if_pos h0]
   have H0:=H9 h0;clear h0;go_enter func307,ntmps307;go_wp2_with fail
   refine HO.o.mono ?_;rintro e w1 ⟨rfl,hb1⟩;have uD:=J7.o.stay hb1;obtain⟨c0,c1,f0,f1⟩:=uD.cells;have HR1:=H9 uD;clear hb1 uD;go_wp2;refine gy (v:=.tuple #[.agg #[.string ⟨#[]⟩,.slice none 0 0],.int .i64 (d.2:Int)]) (by simp[results,results307,go_sem,c0,c1]) rfl (xW.bad HD.o H0.o ?_);first | exact HR1.o.below | exact(HR1.o.below.setCell (aM _) _).setCell (aM _) _
def Fm.Ml:Nat ⊕ Fm.YU->Value
 | .inl c=>.tuple #[.agg #[.string ⟨#[]⟩,.string ⟨#[]⟩,.string ⟨#[]⟩,.slice none 0 0],.int .i64 (c:Int)]
 | .inr p=>.tuple #[.agg #[.string ⟨p.name.toArray⟩,.string ⟨p.file.toArray⟩,.string ⟨p.type.toArray⟩,.slice none 0 0],.int .i64 0]
structure TI (w W:World):Prop where
 row:W.heap[w.heap.size]? = some (.cells #[.string ⟨#[]⟩,.string ⟨#[]⟩,.string ⟨#[]⟩,.slice none 0 0] 70 (0,0))
 below:aj w W
theorem TI.stay {w W W':World}(h:TI w W)(hb:aj W W'):TI w W':=⟨rZ h.row hb,then_ h.below hb⟩
theorem TI.cells {w W:World}(h:TI w W):W.cell? ⟨w.heap.size,0,none⟩=some (.string ⟨#[]⟩)∧W.cell? ⟨w.heap.size,1,none⟩=some (.string ⟨#[]⟩)∧W.cell? ⟨w.heap.size,2,none⟩=some (.string ⟨#[]⟩)∧W.cell? ⟨w.heap.size,3,none⟩=some (.slice none 0 0)∧W.frozen? ⟨w.heap.size,0,none⟩=false∧W.frozen? ⟨w.heap.size,1,none⟩=false∧W.frozen? ⟨w.heap.size,2,none⟩=false∧W.frozen? ⟨w.heap.size,3,none⟩=false :=
 ⟨fK W _ 0 _ _ _ h.row,fK W _ 1 _ _ _ h.row,fK W _ 2 _ _ _ h.row,fK W _ 3 _ _ _ h.row,fM W _ 0 _ _ h.row,fM W _ 1 _ _ h.row,fM W _ 2 _ _ h.row,fM W _ 3 _ _ h.row⟩
theorem ET {w W:World}(h:aj w W)(v0 v1 v2 v3:Value):aj w ((((W.setCell ⟨w.heap.size,0,none⟩ v0).setCell ⟨w.heap.size,1,none⟩ v1).setCell ⟨w.heap.size,2,none⟩ v2).setCell ⟨w.heap.size,3,none⟩ v3) :=
 (((h.setCell (aM _) _).setCell (aM _) _).setCell (aM _) _).setCell (aM _) _
theorem ZN (l:au)(ao:ak)(cap n:Nat)(w:World)(hl:jo w ao cap n (gU l))(hn:l.length=n)(hN:n<=1000)(hz:∀p∈l,p.1.size<=2000∧p.2.size<=2000):
 Calls prog 305 #[.slice ao n cap] w fun e w'=>e=.returned (Fm.Ml (Fm.qh (Fd.one (Fd.vals sw l)) (Fd.one (Fd.vals bType l))))∧aj w w':=by
 have hR0:TI w (w.alloc (.cells #[.string ⟨#[]⟩,.string ⟨#[]⟩,.string ⟨#[]⟩,.slice none 0 0] 70)):=⟨fI w _,(fJ _ _).alloc (aM _) _⟩;have HL:Hid (∀W,aj w W->jo W ao cap n (gU l)):=fun W hW=>hl.stay hW;have HD:=H9 (CP l ao cap n _ (HL.o _ hR0.below) hn hN hz);have HTy:Hid (∀W,aj w W->Calls prog 117 #[.slice ao n cap,.string bType] W fun e w'=>e=.returned (rQ (Fd.one (Fd.vals bType l)))∧aj W w'):=fun W hW=>uh l bType ao cap n W (HL.o W hW) hn (by omega) hz (by decide);have J7:=H9 hR0;have hd2:(Fd.one (Fd.vals sw l)).1.length<=2000:=by
  have hm:∀v∈Fd.vals sw l,v.size<=2000:=fun v hv=>by
   obtain⟨p,hp,rfl⟩:=Fd.wD hv;exact(hz p hp).2
  unfold Fd.one;split
  . exact aA _
  . rename_i v hv;have:=hm v (by rw[hv];simp);rw[Ch.iD];exact this
  . exact aA _
 unfold rQ at HTy;clear hl hz hR0 HL;generalize Fd.one (Fd.vals sw l)=d at *;generalize Fd.one (Fd.vals bType l)=t at *;have hP:=Fm.LU d t;unfold bType at HTy;cases hdi:Fm.zY d with
 | inl c =>
   rw[hdi] at HD hP;have HP:Hid (Fm.qh d t=.inl c):=hP;clear hdi hP HTy;go_enter func305,ntmps305;go_wp2_with fail
   refine HD.o.mono ?_;rintro e w1 ⟨word,ps,jy,cap2,code,rfl,⟨rfl,hc⟩,qz,hb1⟩;have tc:((code:Int) != 0)=true:=by rw[cZ];omega
   have uD:=(J7.o.stay hb1).stay ((fJ _ _).alloc (aM _) (.cells #[.string word,.slice jy ps.length cap2] 172));obtain⟨c0,c1,c2,c3,f0,f1,f2,f3⟩:=uD.cells;have HR1:=H9 uD;clear hb1 uD qz hc;go_wp2;refine gy (v:=.tuple #[.agg #[.string ⟨#[]⟩,.string ⟨#[]⟩,.string ⟨#[]⟩,.slice none 0 0],.int .i64 (code:Int)]) (by simp[results,results305,go_sem,c0,c1,c2,c3]) rfl ⟨by rw[HP.o];rfl,?_⟩;first | exact HR1.o.below | exact ET HR1.o.below _ _ _ _
 | inr xs =>
   have nO:=Fm.WM hdi;rw[hdi] at HD hP;have hP:Fm.qh d t=Fm.partOf xs t:=hP;clear hdi;go_enter func305,ntmps305;go_wp2_with fail
   refine HD.o.mono ?_;rintro e w1 ⟨word,ps,jy,cap2,code,rfl,⟨rfl,hps⟩,qz,hb1⟩;subst hps;obtain⟨n2,hn2⟩:∃n2,ps.length=n2:=⟨_,rfl⟩;rw[hn2] at qz;rw[hn2];have hn8:n2<=8:=by rw[<-hn2,<-sU];exact nO.1
   have hvz:∀p∈ps,p.2.size<=2000:=fun p hp=>by
    have:=nO.2 (p.1.data.toList,p.2.data.toList) (aN.2 ⟨p,hp,rfl⟩);have h2:p.2.data.toList.length<=d.1.length:=this;rw[Ch.iD] at h2;omega
   have ZC:aj w1 (w1.alloc (.cells #[.string word,.slice jy n2 cap2] 172)):=(fJ _ _).alloc (aM _) _;have uD:=(J7.o.stay hb1).stay ZC;have hM1:=fI w1 (.cells #[.string word,.slice jy n2 cap2] 172);have hV1:=qz.nQ.stay ZC;have OZ:=H9 (zZ word ps ⟨#[110,97,109,101]⟩ jy cap2 n2 _ hV1 hn2 (by omega) (fun p hp=>by have:=hvz p hp;omega));have Oq:Hid (∀W,Below (w1.alloc (.cells #[.string word,.slice jy n2 cap2] 172)).heap.size (w1.alloc (.cells #[.string word,.slice jy n2 cap2] 172)) W->Calls prog 308 #[.agg #[.string word,.slice jy n2 cap2]] W fun e w'=>e=.returned (Fm.wP (Fm.file (mq ps)))∧aj W w'):=fun W hW=>Jz word ps jy cap2 n2 W (hV1.stay hW) hn2 (by omega) (fun p hp=>by have:=hvz p hp;omega);have HR1:=H9 uD;have Xk:=H9 hM1;have HP:=H9 hP;have HVz:=H9 hvz
   clear hb1 qz hn2 hvz ZC uD hM1 hV1 hP nO HD;generalize hW1:(w1.alloc (.cells #[.string word,.slice jy n2 cap2] 172))=W1 at *;have m0:W1.cell? ⟨w1.heap.size,0,none⟩=some (.string word):=fK W1 _ 0 _ _ _ Xk.o;have m1:W1.cell? ⟨w1.heap.size,1,none⟩=some (.slice jy n2 cap2):=fK W1 _ 1 _ _ _ Xk.o;cases hnm:lq ⟨#[110,97,109,101]⟩ ps with
   | none =>
     have g1:Fm.get Fm.KG (mq ps)=none:=OD hnm;rw[hnm] at OZ;have ZO:Hid (Fm.qh d t=.inl 6):=by unfold Hid;rw[HP.o];unfold Fm.partOf;rw[g1]
     clear hnm g1 HP Oq HTy;go_wp2_with fail
     refine OZ.o.mono ?_;rintro e w3 ⟨rfl,hb3⟩;have TJ:=HR1.o.stay hb3;obtain⟨c0,c1,c2,c3,f0,f1,f2,f3⟩:=TJ.cells;have HR3:=H9 TJ;clear hb3 TJ hW1 m0 m1;go_wp2;refine gy (v:=.tuple #[.agg #[.string ⟨#[]⟩,.string ⟨#[]⟩,.string ⟨#[]⟩,.slice none 0 0],.int .i64 6]) (by simp[results,results305,go_sem,c0,c1,c2,c3]) rfl ⟨by rw[ZO.o];rfl,?_⟩;first | exact HR3.o.below | exact ET HR3.o.below _ _ _ _
   | some x =>
     obtain⟨g1,_⟩:=Jy hnm;have g1:Fm.get Fm.KG (mq ps)=some x.data.toList:=g1;rw[hnm] at OZ;cases hfl:Fm.file (mq ps) with
     | none =>
       rw[hfl] at Oq;have ZO:Hid (Fm.qh d t=.inl 5):=by unfold Hid;rw[HP.o];unfold Fm.partOf;rw[g1,hfl]
       clear hnm g1 HP HTy hfl;go_wp2_with fail
       refine OZ.o.mono ?_;rintro e w3 ⟨rfl,hb3⟩;have HB3:=H9 hb3;have Xn:=rZ Xk.o hb3;have n0:w3.cell? ⟨w1.heap.size,0,none⟩=some (.string word):=fK w3 _ 0 _ _ _ Xn;have n1:w3.cell? ⟨w1.heap.size,1,none⟩=some (.slice jy n2 cap2):=fK w3 _ 1 _ _ _ Xn;clear hb3 Xn m0 m1 hW1;go_wp2_with fail
       refine(Oq.o w3 HB3.o).mono ?_;rintro e w4 ⟨rfl,hb4⟩;unfold Fm.wP;have hR4:=(HR1.o.stay HB3.o).stay hb4;obtain⟨c0,c1,c2,c3,f0,f1,f2,f3⟩:=hR4.cells;have HR4:=H9 hR4;clear hb4 hR4 n0 n1;go_wp2;refine gy (v:=.tuple #[.agg #[.string ⟨#[]⟩,.string ⟨#[]⟩,.string ⟨#[]⟩,.slice none 0 0],.int .i64 5]) (by simp[results,results305,go_sem,c0,c1,c2,c3]) rfl ⟨by rw[ZO.o];rfl,?_⟩;first | exact HR4.o.below | exact ET HR4.o.below _ _ _ _
     | some f =>
       rw[hfl] at Oq;have hP2:Fm.qh d t=if t.2=9 then .inl 9 else .inr ⟨x.data.toList,f,t.1⟩:=by rw[HP.o];unfold Fm.partOf;rw[g1,hfl]
       clear hnm g1 HP hfl;by_cases h9:t.2=9
       . rw[if_pos h9] at hP2;have ZO:=H9 hP2;have t9:((t.2:Int)==9)=true:=by rw[h9];rfl
         have HT9:=H9 h9;clear hP2 h9;go_wp2_with fail
         refine OZ.o.mono ?_;rintro e w3 ⟨rfl,hb3⟩;have HB3:=H9 hb3;have Xn:=rZ Xk.o hb3;have n0:w3.cell? ⟨w1.heap.size,0,none⟩=some (.string word):=fK w3 _ 0 _ _ _ Xn;have n1:w3.cell? ⟨w1.heap.size,1,none⟩=some (.slice jy n2 cap2):=fK w3 _ 1 _ _ _ Xn;clear hb3 Xn m0 m1 hW1;go_wp2_with fail
         refine(Oq.o w3 HB3.o).mono ?_;rintro e w4 ⟨rfl,hb4⟩;unfold Fm.wP;have HR4:=H9 ((HR1.o.stay HB3.o).stay hb4);clear hb4 n0 n1;go_wp2_with fail
         refine(HTy.o w4 HR4.o.below).mono ?_;rintro e w5 ⟨rfl,hb5⟩;have Yz:=HR4.o.stay hb5;obtain⟨c0,c1,c2,c3,f0,f1,f2,f3⟩:=Yz.cells;have SE:=H9 Yz;clear hb5 Yz;go_wp2;refine gy (v:=.tuple #[.agg #[.string ⟨#[]⟩,.string ⟨#[]⟩,.string ⟨#[]⟩,.slice none 0 0],.int .i64 (t.2:Int)]) (by simp[results,results305,go_sem,c0,c1,c2,c3]) rfl ⟨by rw[ZO.o,HT9.o];rfl,?_⟩;first | exact SE.o.below | exact ET SE.o.below _ _ _ _
       . rw[if_neg h9] at hP2;have ZO:=H9 hP2;have t9:((t.2:Int)==9)=false:=by rw[aS];omega
         clear hP2 h9;go_wp2_with fail
         refine OZ.o.mono ?_;rintro e w3 ⟨rfl,hb3⟩;have HB3:=H9 hb3;have Xn:=rZ Xk.o hb3;have n0:w3.cell? ⟨w1.heap.size,0,none⟩=some (.string word):=fK w3 _ 0 _ _ _ Xn;have n1:w3.cell? ⟨w1.heap.size,1,none⟩=some (.slice jy n2 cap2):=fK w3 _ 1 _ _ _ Xn;clear hb3 Xn m0 m1 hW1;go_wp2_with fail
         refine(Oq.o w3 HB3.o).mono ?_;rintro e w4 ⟨rfl,hb4⟩;unfold Fm.wP;have HR4:=H9 ((HR1.o.stay HB3.o).stay hb4);clear hb4 n0 n1;go_wp2_with fail
         refine(HTy.o w4 HR4.o.below).mono ?_;rintro e w5 ⟨rfl,hb5⟩;have Yz:=HR4.o.stay hb5;obtain⟨c0,c1,c2,c3,f0,f1,f2,f3⟩:=Yz.cells;have SE:=H9 Yz;clear hb5 Yz;go_wp2;refine gy (v:=.tuple #[.agg #[.string x,.string ⟨f.toArray⟩,.string ⟨t.1.toArray⟩,.slice none 0 0],.int .i64 0]) (by simp[results,results305,go_sem,c0,c1,c2,c3]) rfl ⟨by rw[ZO.o];unfold Fm.Ml;simp only[],?_⟩;exact ET SE.o.below _ _ _ _
theorem Xo (l:au)(ao:ak)(cap n:Nat)(w:World)(hl:jo w ao cap n (gU l))(hn:l.length=n)(hN:n<=1000)(hz:∀p∈l,p.1.size<=2000∧p.2.size<=2000):
 Calls prog 305 #[.slice ao n cap] w fun e w'=>e=.returned (Fm.Ml (Fm.part (Rq.V5 l)))∧aj w w':=by
 have h:=ZN l ao cap n w hl hn hN hz;rw[WQ sw ⟨Fm.VA.toArray⟩ l (by decide) (by decide),WQ bType ⟨Fm.nType.toArray⟩ l (by decide) (by decide)] at h;exact h
end Go.Proofs.YtjmndjmhjleabaaGreatDoor