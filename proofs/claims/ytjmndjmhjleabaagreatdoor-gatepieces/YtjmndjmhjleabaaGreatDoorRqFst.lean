/- Package request, walked: a head's first line. -/
import Derived.Test.YtjmndjmhjleabaaGreatDoorRqA
import Derived.Test.YtjmndjmhjleabaaGreatDoorPk6
import Derived.Test.YtjmndjmhjleabaaGreatDoorPk5
import Derived.Test.YtjmndjmhjleabaaGreatDoorPk22
set_option maxHeartbeats 2000000
set_option maxRecDepth 100000
open Go.Proofs.Tryz
namespace Go.Proofs.YtjmndjmhjleabaaGreatDoor
open Go.RowKit
theorem Bt (c:UInt8)(s:ByteArray):∃a b f,Fd.cutV c s=.tuple #[.string a,.string b,.bool f]∧b.size<=s.size:=by
 unfold Fd.cutV;split
 . exact⟨_,_,_,rfl,by show 0<=s.size;omega⟩
 . exact⟨_,_,_,rfl,by rw[ByteArray.size_extract];omega⟩
theorem J6 {c:UInt8}{s:ByteArray}(h:Fd.at_ c s.data.toList<s.data.toList.length):∃a b,Fd.cutV c s=.tuple #[.string a,.string b,.bool true]∧a.data.toList=s.data.toList.take (Fd.at_ c s.data.toList)∧b.data.toList=s.data.toList.drop (Fd.at_ c s.data.toList+1):=by
 have hl:s.data.toList.length=s.size:=by rw[Array.length_toList];rfl
 unfold Fd.cutV;rw[if_neg (by omega)];refine⟨_,_,rfl,?_,?_⟩
 . rw[Lib.extract_data];simp
 . rw[Lib.extract_data,<-hl,List.take_of_length_le];rw[List.length_drop];omega
theorem MC {l:List UInt8}(h32:∀b∈l,b≠32)(hv:∀b∈l,Ch.visible b.toNat=true):Rq.isTarget l=decide (¬(l.head?≠some 47∨9∈l)):=by
 have aaM:Ch.aP l=true:=List.all_eq_true.2 fun b hb=>hv b hb;have hbl:Rq.blank l=decide (9∈l):=by
  unfold Rq.blank;rw[Bool.eq_iff_iff,List.any_eq_true,decide_eq_true_eq];constructor
  . rintro ⟨b,hb,e⟩;simp at e;rcases e with e | e
    . exact absurd e (h32 b hb)
    . exact e▸hb
  . intro h;exact⟨9,h,rfl⟩
 unfold Rq.isTarget;rw[aaM,hbl,Bool.eq_iff_iff];simp
inductive IK (w:World)(g:Nat)(lp bd:Value)(t:List UInt8)(e:Ending)(w':World):Prop
 | bad (c:Nat) (he:e=.returned (.int .i64 (c:Int))) (hf:Rq.first t=.inl c) (hB:Below w.heap.size w w')
 | ok (h:Rq.Hd) (gh:Nat) (he:e=.returned (.int .i64 0)) (hf:Rq.first t=.inr h) (hP:bH w' g lp (.pointer (some ⟨gh,0,none⟩)) false bd 0) (hH:bX w' (fun k=>w.heap.size<=k) gh h) (hT:Turns (fun k=>k=g) w w')
theorem IL (w:World)(g:Nat)(lp bd:Value)(t:ByteArray)(ht:t.size<=2000)(hc:t.data.toList.count 32≠2):
 Calls prog 140 #[.pointer (some ⟨g,0,none⟩),.string t] w fun e w'=>IK w g lp bd t.data.toList e w':=by
 obtain⟨a,b,f,e1,hb⟩:=Bt 32 t;obtain⟨a2,b2,f2,e2,_⟩:=Bt 32 b;have H1:=H9 (pI t 32 w (by unfold maxLen;omega));have H2:=H9 (fun W=>pI b 32 W (by unfold maxLen;omega));have H3:=H9 (fun W=>count_one t 32 W);rw[e1] at H1;simp only[e2] at H2;have HF:=H9 (Rq.DJ hc);have hne:(((t.data.toList.count 32:Nat):Int) != 2)=true:=by rw[bne_iff_ne];omega
 generalize t.data.toList.count 32=nn at H3 hne;clear hc e1 e2 hb;go_enter func140,ntmps140;go_wp2_with fail
 refine H1.o.mono ?_;rintro e w1 ⟨rfl,n1,rfl⟩;go_wp2_with fail
 refine(H2.o _).mono ?_;rintro e w2 ⟨rfl,n2,rfl⟩;go_wp2_with fail
 refine(H3.o _).mono ?_;rintro e w3 ⟨rfl,hw⟩;subst hw;go_wp2;go_ret;exact .bad 5 rfl HF.o (bK ⟨_,rfl⟩)
theorem uM {w w7:World}{g:Nat}{lp bd:Value}{m gt:ByteArray}(hP:bH w7 g lp (.pointer none) false bd 0)(hB:Below w.heap.size w w7)(hg:g<w.heap.size):
 bH ((w7.alloc (.cells #[.string m,.string gt,.int .i64 0,.slice none 0 0,.int .i64 0] 68)).setCell ⟨g,1,none⟩ (.pointer (some ⟨w7.heap.size,0,none⟩))) g lp (.pointer (some ⟨w7.heap.size,0,none⟩)) false bd 0 ∧
 bX ((w7.alloc (.cells #[.string m,.string gt,.int .i64 0,.slice none 0 0,.int .i64 0] 68)).setCell ⟨g,1,none⟩ (.pointer (some ⟨w7.heap.size,0,none⟩))) (fun k=>w.heap.size<=k) w7.heap.size ⟨m.data.toList,gt.data.toList,0,[],0⟩ ∧
 Turns (fun k=>k=g) w ((w7.alloc (.cells #[.string m,.string gt,.int .i64 0,.slice none 0 0,.int .i64 0] 68)).setCell ⟨g,1,none⟩ (.pointer (some ⟨w7.heap.size,0,none⟩))):=by
 have hsz:=hB.size;have hA:Below w7.heap.size w7 (w7.alloc (.cells #[.string m,.string gt,.int .i64 0,.slice none 0 0,.int .i64 0] 68)):=(Below.refl _ _).alloc (Nat.le_refl _) _;refine⟨(hP.stay hA).s1 _,?_,?_⟩
 . refine⟨none,0,?_,aC.nil _ _ _ _,hsz,fun a e=>by cases e⟩;rw[heap_setCell_other _ _ _ _ (show w7.heap.size≠g by omega),heap_alloc_new];rfl
 . exact(Turns.of_below (S:=fun k=>k=g) (hB.trans (hA.mono hsz))).trans (Turns.setCell (fun k=>k=g) _ _ _ rfl) (fun _ e _=>e)
theorem ME {w w7:World}{g:Nat}{lp bd:Value}{m gt:ByteArray}(hP:bH w7 g lp (.pointer none) false bd 0)(hB:Below w.heap.size w w7)(hg:g<w.heap.size):
 bH (((w7.alloc (.cells #[.string m,.string gt,.int .i64 0,.slice none 0 0,.int .i64 0] 68)).setCell ⟨g,1,none⟩ (.pointer (some ⟨w7.heap.size,0,none⟩))).setCell ⟨w7.heap.size,2,none⟩ (.int .i64 1)) g lp (.pointer (some ⟨w7.heap.size,0,none⟩)) false bd 0 ∧
 bX (((w7.alloc (.cells #[.string m,.string gt,.int .i64 0,.slice none 0 0,.int .i64 0] 68)).setCell ⟨g,1,none⟩ (.pointer (some ⟨w7.heap.size,0,none⟩))).setCell ⟨w7.heap.size,2,none⟩ (.int .i64 1)) (fun k=>w.heap.size<=k) w7.heap.size ⟨m.data.toList,gt.data.toList,1,[],0⟩ ∧
 Turns (fun k=>k=g) w (((w7.alloc (.cells #[.string m,.string gt,.int .i64 0,.slice none 0 0,.int .i64 0] 68)).setCell ⟨g,1,none⟩ (.pointer (some ⟨w7.heap.size,0,none⟩))).setCell ⟨w7.heap.size,2,none⟩ (.int .i64 1)):=by
 obtain⟨h1,h2,h3⟩:=uM (m:=m) (gt:=gt) hP hB hg;have hsz:=hB.size;obtain⟨fo,ak,hr,_⟩:=h2;refine⟨h1.turns (Turns.setCell (fun k=>k=w7.heap.size) _ _ _ rfl) (by omega),?_,?_⟩
 . refine⟨none,0,?_,aC.nil _ _ _ _,hsz,fun a e=>by cases e⟩;have hr2:((w7.alloc (.cells #[.string m,.string gt,.int .i64 0,.slice none 0 0,.int .i64 0] 68)).setCell ⟨g,1,none⟩ (.pointer (some ⟨w7.heap.size,0,none⟩))).heap[w7.heap.size]? = some (.cells #[.string m,.string gt,.int .i64 0,.slice none 0 0,.int .i64 0] 68 (0,0)):=by
    rw[heap_setCell_other _ _ _ _ (show w7.heap.size≠g by omega),heap_alloc_new]
   rw[heap_setCell_same _ _ 2 _ _ _ hr2];rfl
 . refine h3.trans (Turns.setCell (fun k=>w.heap.size<=k) _ _ _ hsz) (fun i e hi=>by omega)
theorem MF (w:World)(g:Nat)(lp bd:Value)(t:ByteArray)(hP:bH w g lp (.pointer none) false bd 0)(ht:t.size<=2000)(hv:∀b∈t.data.toList,Ch.visible b.toNat=true)(hc:t.data.toList.count 32=2):
 Calls prog 140 #[.pointer (some ⟨g,0,none⟩),.string t] w fun e w'=>IK w g lp bd t.data.toList e w':=by
 have hl:t.data.toList.length=t.size:=by rw[Array.length_toList];rfl
 obtain⟨c1,c2,_⟩:=Rq.Ay hc;have hF:=Rq.uU hc;obtain⟨m,r,e1,hm,hr⟩:=J6 c1;rw[<-hr] at c2 hF;obtain⟨gt,v,e2,hg,hv2⟩:=J6 c2;rw[<-hm,<-hg,<-hv2] at hF;have hrl:r.size<=2000:=by
  have:r.data.toList.length=r.size:=by rw[Array.length_toList];rfl
  rw[hr,List.length_drop] at this;omega
 have hgl:gt.size<=2000:=by
  have h1:gt.data.toList.length=gt.size:=by rw[Array.length_toList];rfl
  have h2:r.data.toList.length=r.size:=by rw[Array.length_toList];rfl
  rw[hg,List.length_take] at h1;omega
 have hml:m.size<=2000:=by
  have h1:m.data.toList.length=m.size:=by rw[Array.length_toList];rfl
  rw[hm,List.length_take] at h1;omega
 have hmem:∀b∈gt.data.toList,b≠32∧Ch.visible b.toNat=true:=fun b hb=>by
  have h32:b≠32:=by rw[hg] at hb;exact Rq.free_at b hb
  rw[hg] at hb;have hb2:=List.mem_of_mem_take hb;rw[hr] at hb2;exact⟨h32,hv b (List.mem_of_mem_drop hb2)⟩
 have hT:=MC (fun b hb=>(hmem b hb).1) (fun b hb=>(hmem b hb).2);have H1:=H9 (pI t 32 w (by unfold maxLen;omega));have H2:=H9 (fun W=>pI r 32 W (by unfold maxLen;omega));have H3:=H9 (fun W=>count_one t 32 W);rw[e1] at H1;simp only[e2] at H2;simp only[hc] at H3;have pQ:=H9 (fun W=>oq m W (by unfold maxLen;omega));have VU:=H9 (fun W=>CQ gt W (by omega));have R9:=H9 (fun W=>fG m W (by omega));have XH:=H9 (fun W=>fG gt W (by omega));have HP:=H9 hP;have U4:=H9 hP.lt;have Yn:(v.toList==[72,84,84,80,47,49,46,49])=decide (v.data.toList=[72,84,84,80,47,49,46,49]):=by rw[Lib.toList_data,Bool.eq_iff_iff];simp
 have VW:(v.toList==[72,84,84,80,47,49,46,48])=decide (v.data.toList=[72,84,84,80,47,49,46,48]):=by rw[Lib.toList_data,Bool.eq_iff_iff];simp
 have Uk:(([72,84,84,80,47,49,46,49]:List UInt8)==v.toList)=decide (v.data.toList=[72,84,84,80,47,49,46,49]):=by rw[Lib.toList_data,Bool.eq_iff_iff,beq_iff_eq,decide_eq_true_eq];exact eq_comm
 have Qt:(([72,84,84,80,47,49,46,48]:List UInt8)==v.toList)=decide (v.data.toList=[72,84,84,80,47,49,46,48]):=by rw[Lib.toList_data,Bool.eq_iff_iff,beq_iff_eq,decide_eq_true_eq];exact eq_comm
 unfold Rq.BK at hF;simp only[hT] at VU;clear hm hr hg hv2 hmem hv hT c1 c2 e1 e2 hl hc hP ht hrl hgl hml;cases htk:Ch.isToken m.data.toList
 . rw[htk,if_pos rfl] at hF;rw[htk] at pQ;have HF:=H9 hF;clear hF htk;go_enter func140,ntmps140;go_wp2_with fail
   refine H1.o.mono ?_;rintro e w1 ⟨rfl,n1,rfl⟩;go_wp2_with fail
   refine(H2.o _).mono ?_;rintro e w2 ⟨rfl,n2,rfl⟩;go_wp2_with fail
   refine(H3.o _).mono ?_;rintro e w3 ⟨rfl,hw⟩;subst hw;go_wp2_with fail
   refine(pQ.o _).mono ?_;rintro e w4 ⟨rfl,hw⟩;subst hw;go_wp2;go_ret;exact .bad 6 rfl HF.o (bK ⟨_,rfl⟩)
 . rw[htk,if_neg (by simp)] at hF;rw[htk] at pQ;clear htk;by_cases WM:gt.data.toList.head?≠some 47∨9∈gt.data.toList
   . rw[if_pos WM] at hF;rw[decide_eq_false (fun e=>e WM)] at VU;have HF:=H9 hF;clear hF WM;go_enter func140,ntmps140;go_wp2_with fail
     refine H1.o.mono ?_;rintro e w1 ⟨rfl,n1,rfl⟩;go_wp2_with fail
     refine(H2.o _).mono ?_;rintro e w2 ⟨rfl,n2,rfl⟩;go_wp2_with fail
     refine(H3.o _).mono ?_;rintro e w3 ⟨rfl,hw⟩;subst hw;go_wp2_with fail
     refine(pQ.o _).mono ?_;rintro e w4 ⟨rfl,hw⟩;subst hw;go_wp2_with fail
     refine(VU.o _).mono ?_;rintro e w5 ⟨rfl,hb5⟩;have kU:=H9 ((bK ⟨_,rfl⟩).trans (hb5.mono (Nat.le_refl _)));clear hb5;go_wp2;go_ret;exact .bad 5 rfl HF.o kU.o
   . rw[if_neg WM] at hF;rw[decide_eq_true WM] at VU;clear WM;by_cases h11:v.data.toList=[72,84,84,80,47,49,46,49]
     . rw[if_pos h11] at hF;rw[decide_eq_true h11] at Yn Uk;have HF:=H9 hF;clear hF h11 VW Qt;go_enter func140,ntmps140;go_wp2_with fail
       refine H1.o.mono ?_;rintro e w1 ⟨rfl,n1,rfl⟩;go_wp2_with fail
       refine(H2.o _).mono ?_;rintro e w2 ⟨rfl,n2,rfl⟩;go_wp2_with fail
       refine(H3.o _).mono ?_;rintro e w3 ⟨rfl,hw⟩;subst hw;go_wp2_with fail
       refine(pQ.o _).mono ?_;rintro e w4 ⟨rfl,hw⟩;subst hw;go_wp2_with fail
       refine(VU.o _).mono ?_;rintro e w5 ⟨rfl,hb5⟩;have kU:=H9 ((bK ⟨_,rfl⟩).trans (hb5.mono (Nat.le_refl _)));clear hb5;go_wp2_with fail
       refine(R9.o _).mono ?_;rintro e w6 ⟨rfl,hb6⟩;have qj:=H9 (then_ kU.o hb6);clear hb6 kU;go_wp2_with fail
       refine(XH.o _).mono ?_;rintro e w7 ⟨rfl,Qm⟩;have Fj:=H9 (then_ qj.o Qm);have Q0:=H9 (HP.o.stay Fj.o);have f1:=(Q0.o.stay ((Below.refl _ w7).alloc (Nat.le_refl _) (.cells #[.string m,.string gt,.int .i64 0,.slice none 0 0,.int .i64 0] 68))).fz 1;have k1:=(Q0.o.stay ((Below.refl _ w7).alloc (Nat.le_refl _) (.cells #[.string m,.string gt,.int .i64 0,.slice none 0 0,.int .i64 0] 68))).c1;clear Qm qj;have k2:=(uM (m:=m) (gt:=gt) Q0.o Fj.o U4.o).1.c1;go_wp2;go_ret;obtain⟨o1,o2,o3⟩:=ME (m:=m) (gt:=gt) Q0.o Fj.o U4.o;exact .ok _ w7.heap.size rfl HF.o o1 o2 o3
     . rw[if_neg h11] at hF;rw[decide_eq_false h11] at Yn Uk;by_cases h10:v.data.toList=[72,84,84,80,47,49,46,48]
       . rw[if_pos h10] at hF;rw[decide_eq_true h10] at VW Qt;have HF:=H9 hF;clear hF h11 h10;go_enter func140,ntmps140;go_wp2_with fail
         refine H1.o.mono ?_;rintro e w1 ⟨rfl,n1,rfl⟩;go_wp2_with fail
         refine(H2.o _).mono ?_;rintro e w2 ⟨rfl,n2,rfl⟩;go_wp2_with fail
         refine(H3.o _).mono ?_;rintro e w3 ⟨rfl,hw⟩;subst hw;go_wp2_with fail
         refine(pQ.o _).mono ?_;rintro e w4 ⟨rfl,hw⟩;subst hw;go_wp2_with fail
         refine(VU.o _).mono ?_;rintro e w5 ⟨rfl,hb5⟩;have kU:=H9 ((bK ⟨_,rfl⟩).trans (hb5.mono (Nat.le_refl _)));clear hb5;go_wp2_with fail
         refine(R9.o _).mono ?_;rintro e w6 ⟨rfl,hb6⟩;have qj:=H9 (then_ kU.o hb6);clear hb6 kU;go_wp2_with fail
         refine(XH.o _).mono ?_;rintro e w7 ⟨rfl,Qm⟩;have Fj:=H9 (then_ qj.o Qm);have Q0:=H9 (HP.o.stay Fj.o);have f1:=(Q0.o.stay ((Below.refl _ w7).alloc (Nat.le_refl _) (.cells #[.string m,.string gt,.int .i64 0,.slice none 0 0,.int .i64 0] 68))).fz 1;have k1:=(Q0.o.stay ((Below.refl _ w7).alloc (Nat.le_refl _) (.cells #[.string m,.string gt,.int .i64 0,.slice none 0 0,.int .i64 0] 68))).c1;clear Qm qj;go_wp2;go_ret;obtain⟨o1,o2,o3⟩:=uM (m:=m) (gt:=gt) Q0.o Fj.o U4.o;exact .ok _ w7.heap.size rfl HF.o o1 o2 o3
       . rw[if_neg h10] at hF;rw[decide_eq_false h10] at VW Qt;have HF:=H9 hF;clear hF h11 h10;go_enter func140,ntmps140;go_wp2_with fail
         refine H1.o.mono ?_;rintro e w1 ⟨rfl,n1,rfl⟩;go_wp2_with fail
         refine(H2.o _).mono ?_;rintro e w2 ⟨rfl,n2,rfl⟩;go_wp2_with fail
         refine(H3.o _).mono ?_;rintro e w3 ⟨rfl,hw⟩;subst hw;go_wp2_with fail
         refine(pQ.o _).mono ?_;rintro e w4 ⟨rfl,hw⟩;subst hw;go_wp2_with fail
         refine(VU.o _).mono ?_;rintro e w5 ⟨rfl,hb5⟩;have kU:=H9 ((bK ⟨_,rfl⟩).trans (hb5.mono (Nat.le_refl _)));clear hb5;go_wp2;go_ret;exact .bad 11 rfl HF.o kU.o
theorem MG (w:World)(g:Nat)(lp bd:Value)(t:ByteArray)(hP:bH w g lp (.pointer none) false bd 0)(ht:t.size<=2000)(hv:∀b∈t.data.toList,Ch.visible b.toNat=true):
 Calls prog 140 #[.pointer (some ⟨g,0,none⟩),.string t] w fun e w'=>IK w g lp bd t.data.toList e w':=by
 by_cases hc:t.data.toList.count 32=2
 . exact MF w g lp bd t hP ht hv hc
 . exact IL w g lp bd t ht hc
end Go.Proofs.YtjmndjmhjleabaaGreatDoor