/- Package request, walked: a head's first line. -/
import Derived.Test.YtjmndjmhjleabaaGreatDoorRqA
import Derived.Test.YtjmndjmhjleabaaGreatDoorPk6
import Derived.Test.YtjmndjmhjleabaaGreatDoorPk5
import Derived.Test.YtjmndjmhjleabaaGreatDoorPk25
set_option maxHeartbeats 2000000
set_option maxRecDepth 100000
open Go.Proofs.Tryz
namespace Go.Proofs.YtjmndjmhjleabaaGreatDoor
open Go.RowKit
theorem EB (c:UInt8) (s:ByteArray):∃ a b f,Fd.cutV c s=.tuple #[.string a,.string b,.bool f]∧b.size≤s.size:=by
 unfold Fd.cutV;split
 · exact ⟨_,_,_,rfl,by show 0≤s.size;omega⟩
 · exact ⟨_,_,_,rfl,by rw [ByteArray.size_extract];omega⟩
theorem NK {c:UInt8} {s:ByteArray} (h:Fd.at_ c s.data.toList<s.data.toList.length):∃ a b,Fd.cutV c s=.tuple #[.string a,.string b,.bool true]∧a.data.toList=s.data.toList.take (Fd.at_ c s.data.toList)∧b.data.toList=s.data.toList.drop (Fd.at_ c s.data.toList+1):=by
 have hl:s.data.toList.length=s.size:=by rw [Array.length_toList];rfl
 unfold Fd.cutV;rw [if_neg (by omega)];refine ⟨_,_,rfl,?_,?_⟩
 · rw [Lib.extract_data];simp
 · rw [Lib.extract_data,←hl,List.take_of_length_le];rw [List.length_drop];omega
theorem Qw {l:List UInt8} (h32:∀ b∈l,b≠32) (hv:∀ b∈l,Ch.visible b.toNat=true):Rq.isTarget l=decide (¬ (l.head?≠some 47∨9∈l)):=by
 have agl:Ch.aM l=true:=List.all_eq_true.2 fun b hb=>hv b hb;have hbl:Rq.blank l=decide (9∈l):=by
  unfold Rq.blank;rw [Bool.eq_iff_iff,List.any_eq_true,decide_eq_true_eq];constructor
  · rintro ⟨b,hb,e⟩;simp at e;rcases e with e | e
    · exact absurd e (h32 b hb)
    · exact e▸hb
  · intro h;exact ⟨9,h,rfl⟩
 unfold Rq.isTarget;rw [agl,hbl,Bool.eq_iff_iff];simp
inductive Mc (w:World) (g:Nat) (lp bd:Value) (t:List UInt8) (e:Ending) (w':World):Prop
 | bad (c:Nat) (he:e=.returned (.int .i64 (c:Int))) (hf:Rq.first t=.inl c) (hB:Below w.heap.size w w')
 | ok (h:Rq.Hd) (gh:Nat) (he:e=.returned (.int .i64 0)) (hf:Rq.first t=.inr h) (hP:bN w' g lp (.pointer (some ⟨gh,0,none⟩)) false bd 0) (hH:cZ w' (fun k=>w.heap.size≤k) gh h) (hT:Turns (fun k=>k=g) w w')
theorem Md (w:World) (g:Nat) (lp bd:Value) (t:ByteArray) (ht:t.size≤2000) (hc:t.data.toList.count 32≠2) :
 Calls prog 140 #[.pointer (some ⟨g,0,none⟩),.string t] w fun e w'=>Mc w g lp bd t.data.toList e w':=by
 obtain ⟨a,b,f,e1,hb⟩:=EB 32 t;obtain ⟨a2,b2,f2,e2,_⟩:=EB 32 b;have H1:=H9 (rH t 32 w (by unfold maxLen;omega));have H2:=H9 (fun W=>rH b 32 W (by unfold maxLen;omega));have H3:=H9 (fun W=>count_one t 32 W);rw [e1] at H1;simp only [e2] at H2;have HF:=H9 (Rq.GX hc);have hne:(((t.data.toList.count 32:Nat):Int) != 2)=true:=by rw [bne_iff_ne];omega
 generalize t.data.toList.count 32=nn at H3 hne;clear hc e1 e2 hb;go_enter func140,ntmps140;go_wp2_with fail
 refine H1.o.mono ?_;rintro e w1 ⟨rfl,n1,rfl⟩;go_wp2_with fail
 refine (H2.o _).mono ?_;rintro e w2 ⟨rfl,n2,rfl⟩;go_wp2_with fail
 refine (H3.o _).mono ?_;rintro e w3 ⟨rfl,hw⟩;subst hw;go_wp2;go_ret;exact .bad 5 rfl HF.o (bD ⟨_,rfl⟩)
theorem xA {w w7:World} {g:Nat} {lp bd:Value} {m gt:ByteArray} (hP:bN w7 g lp (.pointer none) false bd 0) (hB:Below w.heap.size w w7) (hg:g<w.heap.size) :
 bN ((w7.alloc (.cells #[.string m,.string gt,.int .i64 0,.slice none 0 0,.int .i64 0] 68)).setCell ⟨g,1,none⟩ (.pointer (some ⟨w7.heap.size,0,none⟩))) g lp (.pointer (some ⟨w7.heap.size,0,none⟩)) false bd 0 ∧
 cZ ((w7.alloc (.cells #[.string m,.string gt,.int .i64 0,.slice none 0 0,.int .i64 0] 68)).setCell ⟨g,1,none⟩ (.pointer (some ⟨w7.heap.size,0,none⟩))) (fun k=>w.heap.size≤k) w7.heap.size ⟨m.data.toList,gt.data.toList,0,[],0⟩ ∧
 Turns (fun k=>k=g) w ((w7.alloc (.cells #[.string m,.string gt,.int .i64 0,.slice none 0 0,.int .i64 0] 68)).setCell ⟨g,1,none⟩ (.pointer (some ⟨w7.heap.size,0,none⟩))):=by
 have hsz:=hB.size;have hA:Below w7.heap.size w7 (w7.alloc (.cells #[.string m,.string gt,.int .i64 0,.slice none 0 0,.int .i64 0] 68)):=(Below.refl _ _).alloc (Nat.le_refl _) _;refine ⟨(hP.stay hA).s1 _,?_,?_⟩
 · refine ⟨none,0,?_,aD.nil _ _ _ _,hsz,fun a e=>by cases e⟩;rw [heap_setCell_other _ _ _ _ (show w7.heap.size≠g by omega),heap_alloc_new];rfl
 · exact (Turns.of_below (S:=fun k=>k=g) (hB.trans (hA.mono hsz))).trans (Turns.setCell (fun k=>k=g) _ _ _ rfl) (fun _ e _=>e)
theorem Qx {w w7:World} {g:Nat} {lp bd:Value} {m gt:ByteArray} (hP:bN w7 g lp (.pointer none) false bd 0) (hB:Below w.heap.size w w7) (hg:g<w.heap.size) :
 bN (((w7.alloc (.cells #[.string m,.string gt,.int .i64 0,.slice none 0 0,.int .i64 0] 68)).setCell ⟨g,1,none⟩ (.pointer (some ⟨w7.heap.size,0,none⟩))).setCell ⟨w7.heap.size,2,none⟩ (.int .i64 1)) g lp (.pointer (some ⟨w7.heap.size,0,none⟩)) false bd 0 ∧
 cZ (((w7.alloc (.cells #[.string m,.string gt,.int .i64 0,.slice none 0 0,.int .i64 0] 68)).setCell ⟨g,1,none⟩ (.pointer (some ⟨w7.heap.size,0,none⟩))).setCell ⟨w7.heap.size,2,none⟩ (.int .i64 1)) (fun k=>w.heap.size≤k) w7.heap.size ⟨m.data.toList,gt.data.toList,1,[],0⟩ ∧
 Turns (fun k=>k=g) w (((w7.alloc (.cells #[.string m,.string gt,.int .i64 0,.slice none 0 0,.int .i64 0] 68)).setCell ⟨g,1,none⟩ (.pointer (some ⟨w7.heap.size,0,none⟩))).setCell ⟨w7.heap.size,2,none⟩ (.int .i64 1)):=by
 obtain ⟨h1,h2,h3⟩:=xA (m:=m) (gt:=gt) hP hB hg;have hsz:=hB.size;obtain ⟨fo,au,hr,_⟩:=h2;refine ⟨h1.turns (Turns.setCell (fun k=>k=w7.heap.size) _ _ _ rfl) (by omega),?_,?_⟩
 · refine ⟨none,0,?_,aD.nil _ _ _ _,hsz,fun a e=>by cases e⟩;have hr2:((w7.alloc (.cells #[.string m,.string gt,.int .i64 0,.slice none 0 0,.int .i64 0] 68)).setCell ⟨g,1,none⟩ (.pointer (some ⟨w7.heap.size,0,none⟩))).heap[w7.heap.size]? = some (.cells #[.string m,.string gt,.int .i64 0,.slice none 0 0,.int .i64 0] 68 (0,0)):=by
    rw [heap_setCell_other _ _ _ _ (show w7.heap.size≠g by omega),heap_alloc_new]
   rw [heap_setCell_same _ _ 2 _ _ _ hr2];rfl
 · refine h3.trans (Turns.setCell (fun k=>w.heap.size≤k) _ _ _ hsz) (fun i e hi=>by omega)
theorem Qy (w:World) (g:Nat) (lp bd:Value) (t:ByteArray) (hP:bN w g lp (.pointer none) false bd 0) (ht:t.size≤2000) (hv:∀ b∈t.data.toList,Ch.visible b.toNat=true) (hc:t.data.toList.count 32=2) :
 Calls prog 140 #[.pointer (some ⟨g,0,none⟩),.string t] w fun e w'=>Mc w g lp bd t.data.toList e w':=by
 have hl:t.data.toList.length=t.size:=by rw [Array.length_toList];rfl
 obtain ⟨c1,c2,_⟩:=Rq.DR hc;have hF:=Rq.xO hc;obtain ⟨m,r,e1,hm,hr⟩:=NK c1;rw [←hr] at c2 hF;obtain ⟨gt,v,e2,hg,hv2⟩:=NK c2;rw [←hm,←hg,←hv2] at hF;have hrl:r.size≤2000:=by
  have:r.data.toList.length=r.size:=by rw [Array.length_toList];rfl
  rw [hr,List.length_drop] at this;omega
 have hgl:gt.size≤2000:=by
  have h1:gt.data.toList.length=gt.size:=by rw [Array.length_toList];rfl
  have h2:r.data.toList.length=r.size:=by rw [Array.length_toList];rfl
  rw [hg,List.length_take] at h1;omega
 have hml:m.size≤2000:=by
  have h1:m.data.toList.length=m.size:=by rw [Array.length_toList];rfl
  rw [hm,List.length_take] at h1;omega
 have hmem:∀ b∈gt.data.toList,b≠32∧Ch.visible b.toNat=true:=fun b hb=>by
  have h32:b≠32:=by rw [hg] at hb;exact Rq.free_at b hb
  rw [hg] at hb;have hb2:=List.mem_of_mem_take hb;rw [hr] at hb2;exact ⟨h32,hv b (List.mem_of_mem_drop hb2)⟩
 have hT:=Qw (fun b hb=>(hmem b hb).1) (fun b hb=>(hmem b hb).2);have H1:=H9 (rH t 32 w (by unfold maxLen;omega));have H2:=H9 (fun W=>rH r 32 W (by unfold maxLen;omega));have H3:=H9 (fun W=>count_one t 32 W);rw [e1] at H1;simp only [e2] at H2;simp only [hc] at H3;have nO:=H9 (fun W=>qA m W (by unfold maxLen;omega));have HTg:=H9 (fun W=>FV gt W (by omega));have JR:=H9 (fun W=>gB m W (by omega));have Yn:=H9 (fun W=>gB gt W (by omega));have HP:=H9 hP;have WU:=H9 hP.lt;have acL:(v.toList==[72,84,84,80,47,49,46,49])=decide (v.data.toList=[72,84,84,80,47,49,46,49]):=by rw [Lib.toList_data,Bool.eq_iff_iff];simp
 have aak:(v.toList==[72,84,84,80,47,49,46,48])=decide (v.data.toList=[72,84,84,80,47,49,46,48]):=by rw [Lib.toList_data,Bool.eq_iff_iff];simp
 have YI:(([72,84,84,80,47,49,46,49]:List UInt8)==v.toList)=decide (v.data.toList=[72,84,84,80,47,49,46,49]):=by rw [Lib.toList_data,Bool.eq_iff_iff,beq_iff_eq,decide_eq_true_eq];exact eq_comm
 have UW:(([72,84,84,80,47,49,46,48]:List UInt8)==v.toList)=decide (v.data.toList=[72,84,84,80,47,49,46,48]):=by rw [Lib.toList_data,Bool.eq_iff_iff,beq_iff_eq,decide_eq_true_eq];exact eq_comm
 unfold Rq.ET at hF;simp only [hT] at HTg;clear hm hr hg hv2 hmem hv hT c1 c2 e1 e2 hl hc hP ht hrl hgl hml;cases htk:Ch.isToken m.data.toList
 · rw [htk,if_pos rfl] at hF;rw [htk] at nO;have HF:=H9 hF;clear hF htk;go_enter func140,ntmps140;go_wp2_with fail
   refine H1.o.mono ?_;rintro e w1 ⟨rfl,n1,rfl⟩;go_wp2_with fail
   refine (H2.o _).mono ?_;rintro e w2 ⟨rfl,n2,rfl⟩;go_wp2_with fail
   refine (H3.o _).mono ?_;rintro e w3 ⟨rfl,hw⟩;subst hw;go_wp2_with fail
   refine (nO.o _).mono ?_;rintro e w4 ⟨rfl,hw⟩;subst hw;go_wp2;go_ret;exact .bad 6 rfl HF.o (bD ⟨_,rfl⟩)
 · rw [htk,if_neg (by simp)] at hF;rw [htk] at nO;clear htk;by_cases htg:gt.data.toList.head?≠some 47∨9∈gt.data.toList
   · rw [if_pos htg] at hF;rw [decide_eq_false (fun e=>e htg)] at HTg;have HF:=H9 hF;clear hF htg;go_enter func140,ntmps140;go_wp2_with fail
     refine H1.o.mono ?_;rintro e w1 ⟨rfl,n1,rfl⟩;go_wp2_with fail
     refine (H2.o _).mono ?_;rintro e w2 ⟨rfl,n2,rfl⟩;go_wp2_with fail
     refine (H3.o _).mono ?_;rintro e w3 ⟨rfl,hw⟩;subst hw;go_wp2_with fail
     refine (nO.o _).mono ?_;rintro e w4 ⟨rfl,hw⟩;subst hw;go_wp2_with fail
     refine (HTg.o _).mono ?_;rintro e w5 ⟨rfl,hb5⟩;have lX:=H9 ((bD ⟨_,rfl⟩).trans (hb5.mono (Nat.le_refl _)));clear hb5;go_wp2;go_ret;exact .bad 5 rfl HF.o lX.o
   · rw [if_neg htg] at hF;rw [decide_eq_true htg] at HTg;clear htg;by_cases h11:v.data.toList=[72,84,84,80,47,49,46,49]
     · rw [if_pos h11] at hF;rw [decide_eq_true h11] at acL YI;have HF:=H9 hF;clear hF h11 aak UW;go_enter func140,ntmps140;go_wp2_with fail
       refine H1.o.mono ?_;rintro e w1 ⟨rfl,n1,rfl⟩;go_wp2_with fail
       refine (H2.o _).mono ?_;rintro e w2 ⟨rfl,n2,rfl⟩;go_wp2_with fail
       refine (H3.o _).mono ?_;rintro e w3 ⟨rfl,hw⟩;subst hw;go_wp2_with fail
       refine (nO.o _).mono ?_;rintro e w4 ⟨rfl,hw⟩;subst hw;go_wp2_with fail
       refine (HTg.o _).mono ?_;rintro e w5 ⟨rfl,hb5⟩;have lX:=H9 ((bD ⟨_,rfl⟩).trans (hb5.mono (Nat.le_refl _)));clear hb5;go_wp2_with fail
       refine (JR.o _).mono ?_;rintro e w6 ⟨rfl,hb6⟩;have qc:=H9 (then_ lX.o hb6);clear hb6 lX;go_wp2_with fail
       refine (Yn.o _).mono ?_;rintro e w7 ⟨rfl,UL⟩;have Ez:=H9 (then_ qc.o UL);have Qd:=H9 (HP.o.stay Ez.o);have f1:=(Qd.o.stay ((Below.refl _ w7).alloc (Nat.le_refl _) (.cells #[.string m,.string gt,.int .i64 0,.slice none 0 0,.int .i64 0] 68))).fz 1;have k1:=(Qd.o.stay ((Below.refl _ w7).alloc (Nat.le_refl _) (.cells #[.string m,.string gt,.int .i64 0,.slice none 0 0,.int .i64 0] 68))).c1;clear UL qc;have k2:=(xA (m:=m) (gt:=gt) Qd.o Ez.o WU.o).1.c1;go_wp2;go_ret;obtain ⟨o1,o2,o3⟩:=Qx (m:=m) (gt:=gt) Qd.o Ez.o WU.o;exact .ok _ w7.heap.size rfl HF.o o1 o2 o3
     · rw [if_neg h11] at hF;rw [decide_eq_false h11] at acL YI;by_cases h10:v.data.toList=[72,84,84,80,47,49,46,48]
       · rw [if_pos h10] at hF;rw [decide_eq_true h10] at aak UW;have HF:=H9 hF;clear hF h11 h10;go_enter func140,ntmps140;go_wp2_with fail
         refine H1.o.mono ?_;rintro e w1 ⟨rfl,n1,rfl⟩;go_wp2_with fail
         refine (H2.o _).mono ?_;rintro e w2 ⟨rfl,n2,rfl⟩;go_wp2_with fail
         refine (H3.o _).mono ?_;rintro e w3 ⟨rfl,hw⟩;subst hw;go_wp2_with fail
         refine (nO.o _).mono ?_;rintro e w4 ⟨rfl,hw⟩;subst hw;go_wp2_with fail
         refine (HTg.o _).mono ?_;rintro e w5 ⟨rfl,hb5⟩;have lX:=H9 ((bD ⟨_,rfl⟩).trans (hb5.mono (Nat.le_refl _)));clear hb5;go_wp2_with fail
         refine (JR.o _).mono ?_;rintro e w6 ⟨rfl,hb6⟩;have qc:=H9 (then_ lX.o hb6);clear hb6 lX;go_wp2_with fail
         refine (Yn.o _).mono ?_;rintro e w7 ⟨rfl,UL⟩;have Ez:=H9 (then_ qc.o UL);have Qd:=H9 (HP.o.stay Ez.o);have f1:=(Qd.o.stay ((Below.refl _ w7).alloc (Nat.le_refl _) (.cells #[.string m,.string gt,.int .i64 0,.slice none 0 0,.int .i64 0] 68))).fz 1;have k1:=(Qd.o.stay ((Below.refl _ w7).alloc (Nat.le_refl _) (.cells #[.string m,.string gt,.int .i64 0,.slice none 0 0,.int .i64 0] 68))).c1;clear UL qc;go_wp2;go_ret;obtain ⟨o1,o2,o3⟩:=xA (m:=m) (gt:=gt) Qd.o Ez.o WU.o;exact .ok _ w7.heap.size rfl HF.o o1 o2 o3
       · rw [if_neg h10] at hF;rw [decide_eq_false h10] at aak UW;have HF:=H9 hF;clear hF h11 h10;go_enter func140,ntmps140;go_wp2_with fail
         refine H1.o.mono ?_;rintro e w1 ⟨rfl,n1,rfl⟩;go_wp2_with fail
         refine (H2.o _).mono ?_;rintro e w2 ⟨rfl,n2,rfl⟩;go_wp2_with fail
         refine (H3.o _).mono ?_;rintro e w3 ⟨rfl,hw⟩;subst hw;go_wp2_with fail
         refine (nO.o _).mono ?_;rintro e w4 ⟨rfl,hw⟩;subst hw;go_wp2_with fail
         refine (HTg.o _).mono ?_;rintro e w5 ⟨rfl,hb5⟩;have lX:=H9 ((bD ⟨_,rfl⟩).trans (hb5.mono (Nat.le_refl _)));clear hb5;go_wp2;go_ret;exact .bad 11 rfl HF.o lX.o
theorem Qz (w:World) (g:Nat) (lp bd:Value) (t:ByteArray) (hP:bN w g lp (.pointer none) false bd 0) (ht:t.size≤2000) (hv:∀ b∈t.data.toList,Ch.visible b.toNat=true) :
 Calls prog 140 #[.pointer (some ⟨g,0,none⟩),.string t] w fun e w'=>Mc w g lp bd t.data.toList e w':=by
 by_cases hc:t.data.toList.count 32=2
 · exact Qy w g lp bd t hP ht hv hc
 · exact Md w g lp bd t ht hc
end Go.Proofs.YtjmndjmhjleabaaGreatDoor