/- Package request, walked: a head's first line. -/
import Derived.Test.YtjmndjmhjleabaaGreatDoorAl
import Derived.Test.YtjmndjmhjleabaaGreatDoorAm
import Derived.Test.YtjmndjmhjleabaaGreatDoorRqA
import Derived.Test.YtjmndjmhjleabaaGreatDoorPk6
import Derived.Test.YtjmndjmhjleabaaGreatDoorPk5
import Derived.Test.YtjmndjmhjleabaaGreatDoorPk23
set_option maxHeartbeats 2000000
set_option maxRecDepth 100000
open Go.Proofs.Tryz
namespace Go.Proofs.YtjmndjmhjleabaaGreatDoor
open Go.RowKit
theorem IU (c:UInt8)(s:ay):∃a b f,Fd.cutV c s=.tuple #[.string a,.string b,.bool f]∧b.size<=s.size:=by
 unfold Fd.cutV;split
 . exact⟨_,_,_,rfl,by show 0<=s.size;omega⟩
 . exact⟨_,_,_,rfl,by rw[ByteArray.size_extract];omega⟩
theorem QZ {c:UInt8}{s:ay}(h:Fd.at_ c s.data.toList<s.data.toList.length):∃a b,Fd.cutV c s=.tuple #[.string a,.string b,.bool true]∧a.data.toList=s.data.toList.take (Fd.at_ c s.data.toList)∧b.data.toList=s.data.toList.drop (Fd.at_ c s.data.toList+1):=by
 have hl:s.data.toList.length=s.size:=by rw[aO];rfl
 unfold Fd.cutV;rw[if_neg (by omega)];refine⟨_,_,rfl,?_,?_⟩
 . rw[Lib.extract_data];simp
 . rw[Lib.extract_data,<-hl,dO];rw[bV];omega
theorem Ud {l:av}(h32:∀b∈l,b≠32)(hv:∀b∈l,Ch.visible b.toNat=true):Rq.isTarget l=decide (¬(l.head?≠some 47∨9∈l)):=by
 have aiL:Ch.iy l=true:=dN.2 fun b hb=>hv b hb;have hbl:Rq.blank l=decide (9∈l):=by
  unfold Rq.blank;rw[aH,List.any_eq_true,bR];constructor
  . rintro ⟨b,hb,e⟩;simp at e;rcases e with e | e
    . exact absurd e (h32 b hb)
    . exact e▸hb
  . intro h;exact⟨9,h,rfl⟩
 unfold Rq.isTarget;rw[aiL,hbl,aH];simp
inductive Pp (w:World)(g:Nat)(lp bd:Value)(t:av)(e:Ending)(w':World):Prop
 | bad (c:Nat) (he:e=.returned (.int .i64 (c:Int))) (hf:Rq.first t=.inl c) (hB:aj w w')
 | ok (h:Rq.Hd) (gh:Nat) (he:e=.returned (.int .i64 0)) (hf:Rq.first t=.inr h) (hP:jg w' g lp (.pointer (some ⟨gh,0,none⟩)) false bd 0) (hH:jG w' (fun k=>w.heap.size<=k) gh h) (hT:Turns (fun k=>k=g) w w')
theorem Pq (w:World)(g:Nat)(lp bd:Value)(t:ay)(ht:t.size<=2000)(hc:t.data.toList.count 32≠2):
 Calls prog 140 #[.pointer (some ⟨g,0,none⟩),.string t] w fun e w'=>Pp w g lp bd t.data.toList e w':=by
 obtain⟨a,b,f,e1,hb⟩:=IU 32 t;obtain⟨a2,b2,f2,e2,_⟩:=IU 32 b;have H1:=H9 (xG t 32 w (by unfold maxLen;omega));have H2:=H9 (fun W=>xG b 32 W (by unfold maxLen;omega));have H3:=H9 (fun W=>count_one t 32 W);rw[e1] at H1;simp only[e2] at H2;have HF:=H9 (Rq.KN hc);have hne:(((t.data.toList.count 32:Nat):Int) != 2)=true:=by rw[cZ];omega
 generalize t.data.toList.count 32=nn at H3 hne;clear hc e1 e2 hb;go_enter func140,ntmps140;go_wp2_with fail
 refine H1.o.mono ?_;rintro e w1 ⟨rfl,n1,rfl⟩;go_wp2_with fail
 refine(H2.o _).mono ?_;rintro e w2 ⟨rfl,n2,rfl⟩;go_wp2_with fail
 refine(H3.o _).mono ?_;rintro e w3 ⟨rfl,hw⟩;subst hw;go_wp2;go_ret;exact .bad 5 rfl HF.o (iU ⟨_,rfl⟩)
theorem Bp {w w7:World}{g:Nat}{lp bd:Value}{m gt:ay}(hP:jg w7 g lp (.pointer none) false bd 0)(hB:aj w w7)(hg:g<w.heap.size):
 jg ((w7.alloc (.cells #[.string m,.string gt,.int .i64 0,.slice none 0 0,.int .i64 0] 68)).setCell ⟨g,1,none⟩ (.pointer (some ⟨w7.heap.size,0,none⟩))) g lp (.pointer (some ⟨w7.heap.size,0,none⟩)) false bd 0 ∧
 jG ((w7.alloc (.cells #[.string m,.string gt,.int .i64 0,.slice none 0 0,.int .i64 0] 68)).setCell ⟨g,1,none⟩ (.pointer (some ⟨w7.heap.size,0,none⟩))) (fun k=>w.heap.size<=k) w7.heap.size ⟨m.data.toList,gt.data.toList,0,[],0⟩ ∧
 Turns (fun k=>k=g) w ((w7.alloc (.cells #[.string m,.string gt,.int .i64 0,.slice none 0 0,.int .i64 0] 68)).setCell ⟨g,1,none⟩ (.pointer (some ⟨w7.heap.size,0,none⟩))):=by
 have hsz:=hB.size;have hA:aj w7 (w7.alloc (.cells #[.string m,.string gt,.int .i64 0,.slice none 0 0,.int .i64 0] 68)):=(fJ _ _).alloc (aM _) _;refine⟨(hP.stay hA).s1 _,?_,?_⟩
 . refine⟨none,0,?_,gV.nil _ _ _ _,hsz,fun a e=>by cases e⟩;rw[gD _ _ _ _ (show w7.heap.size≠g by omega),fI];rfl
 . exact(Turns.of_below (S:=fun k=>k=g) (hB.trans (hA.mono hsz))).trans (Turns.setCell (fun k=>k=g) _ _ _ rfl) (fun _ e _=>e)
theorem Ue {w w7:World}{g:Nat}{lp bd:Value}{m gt:ay}(hP:jg w7 g lp (.pointer none) false bd 0)(hB:aj w w7)(hg:g<w.heap.size):
 jg (((w7.alloc (.cells #[.string m,.string gt,.int .i64 0,.slice none 0 0,.int .i64 0] 68)).setCell ⟨g,1,none⟩ (.pointer (some ⟨w7.heap.size,0,none⟩))).setCell ⟨w7.heap.size,2,none⟩ (.int .i64 1)) g lp (.pointer (some ⟨w7.heap.size,0,none⟩)) false bd 0 ∧
 jG (((w7.alloc (.cells #[.string m,.string gt,.int .i64 0,.slice none 0 0,.int .i64 0] 68)).setCell ⟨g,1,none⟩ (.pointer (some ⟨w7.heap.size,0,none⟩))).setCell ⟨w7.heap.size,2,none⟩ (.int .i64 1)) (fun k=>w.heap.size<=k) w7.heap.size ⟨m.data.toList,gt.data.toList,1,[],0⟩ ∧
 Turns (fun k=>k=g) w (((w7.alloc (.cells #[.string m,.string gt,.int .i64 0,.slice none 0 0,.int .i64 0] 68)).setCell ⟨g,1,none⟩ (.pointer (some ⟨w7.heap.size,0,none⟩))).setCell ⟨w7.heap.size,2,none⟩ (.int .i64 1)):=by
 obtain⟨h1,h2,h3⟩:=Bp (m:=m) (gt:=gt) hP hB hg;have hsz:=hB.size;obtain⟨fo,gM,hr,_⟩:=h2;refine⟨h1.turns (Turns.setCell (fun k=>k=w7.heap.size) _ _ _ rfl) (by omega),?_,?_⟩
 . refine⟨none,0,?_,gV.nil _ _ _ _,hsz,fun a e=>by cases e⟩;have hr2:((w7.alloc (.cells #[.string m,.string gt,.int .i64 0,.slice none 0 0,.int .i64 0] 68)).setCell ⟨g,1,none⟩ (.pointer (some ⟨w7.heap.size,0,none⟩))).heap[w7.heap.size]? = some (.cells #[.string m,.string gt,.int .i64 0,.slice none 0 0,.int .i64 0] 68 (0,0)):=by
    rw[gD _ _ _ _ (show w7.heap.size≠g by omega),fI]
   rw[fO _ _ 2 _ _ _ hr2];rfl
 . refine h3.trans (Turns.setCell (fun k=>w.heap.size<=k) _ _ _ hsz) (fun i e hi=>by omega)
theorem Uf (w:World)(g:Nat)(lp bd:Value)(t:ay)(hP:jg w g lp (.pointer none) false bd 0)(ht:t.size<=2000)(hv:∀b∈t.data.toList,Ch.visible b.toNat=true)(hc:t.data.toList.count 32=2):
 Calls prog 140 #[.pointer (some ⟨g,0,none⟩),.string t] w fun e w'=>Pp w g lp bd t.data.toList e w':=by
 have hl:t.data.toList.length=t.size:=by rw[aO];rfl
 obtain⟨c1,c2,_⟩:=Rq.Ho hc;have hF:=Rq.BH hc;obtain⟨m,r,e1,hm,hr⟩:=QZ c1;rw[<-hr] at c2 hF;obtain⟨gt,v,e2,hg,hv2⟩:=QZ c2;rw[<-hm,<-hg,<-hv2] at hF;have hrl:r.size<=2000:=by
  have:r.data.toList.length=r.size:=by rw[aO];rfl
  rw[hr,bV] at this;omega
 have hgl:gt.size<=2000:=by
  have h1:gt.data.toList.length=gt.size:=by rw[aO];rfl
  have h2:r.data.toList.length=r.size:=by rw[aO];rfl
  rw[hg,bY] at h1;omega
 have hml:m.size<=2000:=by
  have h1:m.data.toList.length=m.size:=by rw[aO];rfl
  rw[hm,bY] at h1;omega
 have hmem:∀b∈gt.data.toList,b≠32∧Ch.visible b.toNat=true:=fun b hb=>by
  have h32:b≠32:=by rw[hg] at hb;exact Rq.free_at b hb
  rw[hg] at hb;have hb2:=List.mem_of_mem_take hb;rw[hr] at hb2;exact⟨h32,hv b (List.mem_of_mem_drop hb2)⟩
 have hT:=Ud (fun b hb=>(hmem b hb).1) (fun b hb=>(hmem b hb).2);have H1:=H9 (xG t 32 w (by unfold maxLen;omega));have H2:=H9 (fun W=>xG r 32 W (by unfold maxLen;omega));have H3:=H9 (fun W=>count_one t 32 W);rw[e1] at H1;simp only[e2] at H2;simp only[hc] at H3;have tF:=H9 (fun W=>wu m W (by unfold maxLen;omega));have HTg:=H9 (fun W=>JV gt W (by omega));have M8:=H9 (fun W=>lM m W (by omega));have HC2:=H9 (fun W=>lM gt W (by omega));have HP:=H9 hP;have Zx:=H9 hP.lt;have afc:(v.toList==[72,84,84,80,47,49,46,49])=decide (v.data.toList=[72,84,84,80,47,49,46,49]):=by rw[Lib.toList_data,aH];simp
 have acS:(v.toList==[72,84,84,80,47,49,46,48])=decide (v.data.toList=[72,84,84,80,47,49,46,48]):=by rw[Lib.toList_data,aH];simp
 have abf:(([72,84,84,80,47,49,46,49]:av)==v.toList)=decide (v.data.toList=[72,84,84,80,47,49,46,49]):=by rw[Lib.toList_data,aH,aT,bR];exact eq_comm
 have XO:(([72,84,84,80,47,49,46,48]:av)==v.toList)=decide (v.data.toList=[72,84,84,80,47,49,46,48]):=by rw[Lib.toList_data,aH,aT,bR];exact eq_comm
 unfold Rq.Je at hF;simp only[hT] at HTg;clear hm hr hg hv2 hmem hv hT c1 c2 e1 e2 hl hc hP ht hrl hgl hml;cases htk:Ch.isToken m.data.toList
 . rw[htk,if_pos rfl] at hF;rw[htk] at tF;have HF:=H9 hF;clear hF htk;go_enter func140,ntmps140;go_wp2_with fail
   refine H1.o.mono ?_;rintro e w1 ⟨rfl,n1,rfl⟩;go_wp2_with fail
   refine(H2.o _).mono ?_;rintro e w2 ⟨rfl,n2,rfl⟩;go_wp2_with fail
   refine(H3.o _).mono ?_;rintro e w3 ⟨rfl,hw⟩;subst hw;go_wp2_with fail
   refine(tF.o _).mono ?_;rintro e w4 ⟨rfl,hw⟩;subst hw;go_wp2;go_ret;exact .bad 6 rfl HF.o (iU ⟨_,rfl⟩)
 . rw[htk,if_neg (by simp)] at hF;rw[htk] at tF;clear htk;by_cases htg:gt.data.toList.head?≠some 47∨9∈gt.data.toList
   . rw[if_pos htg] at hF;rw[aJ (fun e=>e htg)] at HTg;have HF:=H9 hF;clear hF htg;go_enter func140,ntmps140;go_wp2_with fail
     refine H1.o.mono ?_;rintro e w1 ⟨rfl,n1,rfl⟩;go_wp2_with fail
     refine(H2.o _).mono ?_;rintro e w2 ⟨rfl,n2,rfl⟩;go_wp2_with fail
     refine(H3.o _).mono ?_;rintro e w3 ⟨rfl,hw⟩;subst hw;go_wp2_with fail
     refine(tF.o _).mono ?_;rintro e w4 ⟨rfl,hw⟩;subst hw;go_wp2_with fail
     refine(HTg.o _).mono ?_;rintro e w5 ⟨rfl,hb5⟩;have qY:=H9 ((iU ⟨_,rfl⟩).trans (hb5.mono (aM _)));clear hb5;go_wp2;go_ret;exact .bad 5 rfl HF.o qY.o
   . rw[if_neg htg] at hF;rw[aI htg] at HTg;clear htg;by_cases h11:v.data.toList=[72,84,84,80,47,49,46,49]
     . rw[if_pos h11] at hF;rw[aI h11] at afc abf;have HF:=H9 hF;clear hF h11 acS XO;go_enter func140,ntmps140;go_wp2_with fail
       refine H1.o.mono ?_;rintro e w1 ⟨rfl,n1,rfl⟩;go_wp2_with fail
       refine(H2.o _).mono ?_;rintro e w2 ⟨rfl,n2,rfl⟩;go_wp2_with fail
       refine(H3.o _).mono ?_;rintro e w3 ⟨rfl,hw⟩;subst hw;go_wp2_with fail
       refine(tF.o _).mono ?_;rintro e w4 ⟨rfl,hw⟩;subst hw;go_wp2_with fail
       refine(HTg.o _).mono ?_;rintro e w5 ⟨rfl,hb5⟩;have qY:=H9 ((iU ⟨_,rfl⟩).trans (hb5.mono (aM _)));clear hb5;go_wp2_with fail
       refine(M8.o _).mono ?_;rintro e w6 ⟨rfl,hb6⟩;have vP:=H9 (then_ qY.o hb6);clear hb6 qY;go_wp2_with fail
       refine(HC2.o _).mono ?_;rintro e w7 ⟨rfl,XG⟩;have IL:=H9 (then_ vP.o XG);have TF:=H9 (HP.o.stay IL.o);have f1:=(TF.o.stay ((fJ _ w7).alloc (aM _) (.cells #[.string m,.string gt,.int .i64 0,.slice none 0 0,.int .i64 0] 68))).fz 1;have k1:=(TF.o.stay ((fJ _ w7).alloc (aM _) (.cells #[.string m,.string gt,.int .i64 0,.slice none 0 0,.int .i64 0] 68))).c1;clear XG vP;have k2:=(Bp (m:=m) (gt:=gt) TF.o IL.o Zx.o).1.c1;go_wp2;go_ret;obtain⟨o1,o2,o3⟩:=Ue (m:=m) (gt:=gt) TF.o IL.o Zx.o;exact .ok _ w7.heap.size rfl HF.o o1 o2 o3
     . rw[if_neg h11] at hF;rw[aJ h11] at afc abf;by_cases h10:v.data.toList=[72,84,84,80,47,49,46,48]
       . rw[if_pos h10] at hF;rw[aI h10] at acS XO;have HF:=H9 hF;clear hF h11 h10;go_enter func140,ntmps140;go_wp2_with fail
         refine H1.o.mono ?_;rintro e w1 ⟨rfl,n1,rfl⟩;go_wp2_with fail
         refine(H2.o _).mono ?_;rintro e w2 ⟨rfl,n2,rfl⟩;go_wp2_with fail
         refine(H3.o _).mono ?_;rintro e w3 ⟨rfl,hw⟩;subst hw;go_wp2_with fail
         refine(tF.o _).mono ?_;rintro e w4 ⟨rfl,hw⟩;subst hw;go_wp2_with fail
         refine(HTg.o _).mono ?_;rintro e w5 ⟨rfl,hb5⟩;have qY:=H9 ((iU ⟨_,rfl⟩).trans (hb5.mono (aM _)));clear hb5;go_wp2_with fail
         refine(M8.o _).mono ?_;rintro e w6 ⟨rfl,hb6⟩;have vP:=H9 (then_ qY.o hb6);clear hb6 qY;go_wp2_with fail
         refine(HC2.o _).mono ?_;rintro e w7 ⟨rfl,XG⟩;have IL:=H9 (then_ vP.o XG);have TF:=H9 (HP.o.stay IL.o);have f1:=(TF.o.stay ((fJ _ w7).alloc (aM _) (.cells #[.string m,.string gt,.int .i64 0,.slice none 0 0,.int .i64 0] 68))).fz 1;have k1:=(TF.o.stay ((fJ _ w7).alloc (aM _) (.cells #[.string m,.string gt,.int .i64 0,.slice none 0 0,.int .i64 0] 68))).c1;clear XG vP;go_wp2;go_ret;obtain⟨o1,o2,o3⟩:=Bp (m:=m) (gt:=gt) TF.o IL.o Zx.o;exact .ok _ w7.heap.size rfl HF.o o1 o2 o3
       . rw[if_neg h10] at hF;rw[aJ h10] at acS XO;have HF:=H9 hF;clear hF h11 h10;go_enter func140,ntmps140;go_wp2_with fail
         refine H1.o.mono ?_;rintro e w1 ⟨rfl,n1,rfl⟩;go_wp2_with fail
         refine(H2.o _).mono ?_;rintro e w2 ⟨rfl,n2,rfl⟩;go_wp2_with fail
         refine(H3.o _).mono ?_;rintro e w3 ⟨rfl,hw⟩;subst hw;go_wp2_with fail
         refine(tF.o _).mono ?_;rintro e w4 ⟨rfl,hw⟩;subst hw;go_wp2_with fail
         refine(HTg.o _).mono ?_;rintro e w5 ⟨rfl,hb5⟩;have qY:=H9 ((iU ⟨_,rfl⟩).trans (hb5.mono (aM _)));clear hb5;go_wp2;go_ret;exact .bad 11 rfl HF.o qY.o
theorem Ug (w:World)(g:Nat)(lp bd:Value)(t:ay)(hP:jg w g lp (.pointer none) false bd 0)(ht:t.size<=2000)(hv:∀b∈t.data.toList,Ch.visible b.toNat=true):
 Calls prog 140 #[.pointer (some ⟨g,0,none⟩),.string t] w fun e w'=>Pp w g lp bd t.data.toList e w':=by
 by_cases hc:t.data.toList.count 32=2
 . exact Uf w g lp bd t hP ht hv hc
 . exact Pq w g lp bd t ht hc
end Go.Proofs.YtjmndjmhjleabaaGreatDoor