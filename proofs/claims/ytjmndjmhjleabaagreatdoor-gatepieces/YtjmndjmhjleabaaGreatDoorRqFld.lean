/- Package request, walked: a head's field. -/
import Derived.Test.YtjmndjmhjleabaaGreatDoorPk10
import Derived.Test.YtjmndjmhjleabaaGreatDoorRqA
import Derived.Test.YtjmndjmhjleabaaGreatDoorPk30
import Derived.Deep.RegionLaw
import Derived.Deep.AppendLies
set_option maxHeartbeats 4000000
set_option maxRecDepth 100000
open Go.Proofs.Tryz
namespace Go.Proofs.YtjmndjmhjleabaaGreatDoor
open Go.RowKit
theorem IQ (w:World)(g gh:Nat)(lp bd:Value)(S:Nat->Prop)(h:Rq.Hd)(t:ByteArray)(hP:bH w g lp (.pointer (some ⟨gh,0,none⟩)) false bd 0)(hH:bX w S gh h)(hn:h.fields.length=16):
 Calls prog 142 #[.pointer (some ⟨g,0,none⟩),.string t] w fun e w'=>e=.returned (.int .i64 8)∧w'=w:=by
 obtain⟨fo,ak,hr,ho,h1,h2⟩:=hH;have c1:=hP.c1;have c3:w.cell? ⟨gh,3,none⟩=some (.slice fo 16 ak):=by rw[cell_of_row w gh 3 _ _ _ hr];simp[hn]
 clear hP hr ho hn;go_enter func142,ntmps142;go_wp2;go_ret;exact⟨rfl,rfl⟩
theorem MH (w:World)(g gh:Nat)(lp bd:Value)(S:Nat->Prop)(h:Rq.Hd)(t:ByteArray)(hP:bH w g lp (.pointer (some ⟨gh,0,none⟩)) false bd 0)(hH:bX w S gh h)(hn:h.fields.length≠16)(ht:t.size<=2000)(hc:(Fd.of t.data.toList).code≠0):
 Calls prog 142 #[.pointer (some ⟨g,0,none⟩),.string t] w fun e w'=>e=.returned (.int .i64 ((Fd.of t.data.toList).code:Int))∧Below w.heap.size w w':=by
 obtain⟨fo,ak,hr,ho,h1,h2⟩:=hH;have c1:=hP.c1;have c3:w.cell? ⟨gh,3,none⟩=some (.slice fo h.fields.length ak):=cell_of_row w gh 3 _ _ _ hr;have t16:((h.fields.length:Int)==16)=false:=beq_eq_false_iff_ne.2 (by omega);have HP:=H9 (pO t w ht);unfold Fd.val at HP;have tc:(((Fd.of t.data.toList).code:Int)==0)=false:=beq_eq_false_iff_ne.2 (by omega);generalize (Fd.of t.data.toList).code=cc at *;generalize (⟨(Fd.of t.data.toList).name.toArray⟩:ByteArray)=nm at *;generalize (⟨(Fd.of t.data.toList).value.toArray⟩:ByteArray)=vl at *;generalize h.fields.length=nn at *;clear hP hr ho hn hc;go_enter func142,ntmps142;go_wp2_with fail
 refine HP.o.mono ?_;rintro e w1 ⟨rfl,hB⟩;have HB:=H9 hB;clear hB;go_wp2;go_ret;refine⟨rfl,?_⟩;exact HB.o.trans ((Below.refl _ _).alloc HB.o.size _)
theorem MI {w W w3:World}{S:Nat->Prop}{g gh n ak g3 aI:Nat}{lp bd:Value}{fo:Option Addr}{h:Rq.Hd}{nm vl:ByteArray}
 (hP:bH w g lp (.pointer (some ⟨gh,0,none⟩)) false bd 0) (hg:¬S g)
 (hr:w.heap[gh]? = some (.cells #[.string ⟨h.method.toArray⟩,.string ⟨h.target.toArray⟩,.int .i64 (h.minor:Int),.slice fo n ak,.int .i64 h.length] 68 (0,0)))
 (ho:aC w 0 111 2 fo ak n (aB (Rq.iH h.fields))) (hn:h.fields.length=n) (h1:S gh) (h2:∀a,fo=some a->S a.block)
 (hB:Below w.heap.size w W) (hG:W.grownBy w3 (Value.slice fo n ak).ownBlock)
 (hO:w3.ownsRow 0 111 2 (.slice (some ⟨g3,0,none⟩) (n+1) aI) (n+1) (aB (Rq.iH h.fields)++[.string nm,.string vl]))
 (hA:(Value.slice fo n ak).ownBlock=some g3∨w.heap.size<=g3) :
 bH (w3.setCell ⟨gh,3,none⟩ (.slice (some ⟨g3,0,none⟩) (n+1) aI)) g lp (.pointer (some ⟨gh,0,none⟩)) false bd 0 ∧
 bX (w3.setCell ⟨gh,3,none⟩ (.slice (some ⟨g3,0,none⟩) (n+1) aI)) (av S w) gh { h with fields:=h.fields++[(nm.data.toList,vl.data.toList)] } ∧
 Turns S w (w3.setCell ⟨gh,3,none⟩ (.slice (some ⟨g3,0,none⟩) (n+1) aI)):=by
 rw[ay] at hG hA;have hT1:Turns (fun k=>au fo=some k) w w3:=(Turns.of_below (S:=fun k=>au fo=some k) hB).trans (Turns.bI hG (fun k e=>e)) (fun _ e _=>e);have hbs:∀k,au fo=some k->S k∧k≠gh:=fun k e=>by
  cases fo with
  | none=>cases e
  | some a=>injection e with e;subst e;exact⟨h2 a rfl,ug hr ho a rfl⟩
 have hgh:gh≠g:=fun e=>hg (e▸h1);have hr3:=hT1.row hr (fun e=>(hbs gh e).2 rfl);have hT:Turns S w (w3.setCell ⟨gh,3,none⟩ (.slice (some ⟨g3,0,none⟩) (n+1) aI)):=(hT1.mono (fun k e=>(hbs k e).1)).trans (Turns.setCell S _ _ _ h1) (fun _ e _=>e);have hg3:gh≠g3:=fun e=>by
  subst e;rcases hA with hA | hA
  . exact(hbs _ hA).2 rfl
  . have:=(Array.getElem?_eq_some_iff.1 hr).1;omega
 refine⟨hP.turns hT hg,⟨some ⟨g3,0,none⟩,aI,?_,?_,Or.inl h1,fun a e=>?_⟩,hT⟩
 . rw[heap_setCell_same _ _ 3 _ _ _ hr3];simp[hn]
 . have e1:aB (Rq.iH (h.fields++[(nm.data.toList,vl.data.toList)]))=aB (Rq.iH h.fields)++[.string nm,.string vl]:=by
    rw[Rq.xU,mI];rfl
   show aC _ _ _ _ _ _ (h.fields++[(nm.data.toList,vl.data.toList)]).length (aB (Rq.iH (h.fields++[(nm.data.toList,vl.data.toList)])));rw[e1,List.length_append,hn];have xY:aC w3 0 111 2 (some ⟨g3,0,none⟩) aI (n+1) (aB (Rq.iH h.fields)++[.string nm,.string vl]):=hO;exact xY.turns (Turns.setCell (fun k=>k=gh) w3 _ _ rfl) (fun a e e2=>by injection e with e;subst e;exact hg3 e2.symm)
 . injection e with e;subst e;rcases hA with hA | hA
   . exact Or.inl (hbs _ hA).1
   . exact Or.inr hA
theorem Qu (w:World)(g gh:Nat)(lp bd:Value)(S:Nat->Prop)(h:Rq.Hd)(t:ByteArray)(hP:bH w g lp (.pointer (some ⟨gh,0,none⟩)) false bd 0)(hH:bX w S gh h)(hg:¬S g)(hn:h.fields.length<16)(ht:t.size<=2000)(hc:(Fd.of t.data.toList).code=0):
 Calls prog 142 #[.pointer (some ⟨g,0,none⟩),.string t] w fun e w'=>e=.returned (.int .i64 0)∧bH w' g lp (.pointer (some ⟨gh,0,none⟩)) false bd 0∧bX w' (av S w) gh { h with fields:=h.fields++[((Fd.of t.data.toList).name,(Fd.of t.data.toList).value)] }∧Turns S w w':=by
 obtain⟨fo,ak,hr,ho,h1,h2⟩:=hH;have c1:=hP.c1;have JV:=H9 (pO t w ht);unfold Fd.val at JV;rw[hc] at JV;obtain⟨nm,hnm⟩:∃nm:ByteArray,(⟨(Fd.of t.data.toList).name.toArray⟩:ByteArray)=nm:=⟨_,rfl⟩;obtain⟨vl,hvl⟩:∃vl:ByteArray,(⟨(Fd.of t.data.toList).value.toArray⟩:ByteArray)=vl:=⟨_,rfl⟩;have e1:(Fd.of t.data.toList).name=nm.data.toList:=by rw[<-hnm]
 have e2:(Fd.of t.data.toList).value=vl.data.toList:=by rw[<-hvl]
 rw[hnm,hvl] at JV;rw[e1,e2];obtain⟨n,hfn⟩:∃n,h.fields.length=n:=⟨_,rfl⟩;rw[hfn] at hr ho hn;have hlt:n*2<=32:=by omega
 have c3:w.cell? ⟨gh,3,none⟩=some (.slice fo n ak):=cell_of_row w gh 3 _ _ _ hr;have t16:((n:Int)==16)=false:=beq_eq_false_iff_ne.2 (by omega);have hgh:gh≠g:=fun e=>hg (e▸h1);have hK:∀W,Below w.heap.size w W->W.cell? ⟨g,1,none⟩=some (.pointer (some ⟨gh,0,none⟩))∧W.cell? ⟨gh,3,none⟩=some (.slice fo n ak):=fun W hW =>
  ⟨(hW.cell (World.block_lt_of_cell? w _ c1)).trans c1,(hW.cell (World.block_lt_of_cell? w _ c3)).trans c3⟩
 have hK2:∀W W3,Below w.heap.size w W->W.grownBy W3 (Value.slice fo n ak).ownBlock->W3.cell? ⟨g,1,none⟩=some (.pointer (some ⟨gh,0,none⟩))∧W3.cell? ⟨gh,3,none⟩=some (.slice fo n ak)∧W3.frozen? ⟨gh,3,none⟩=false:=fun W W3 hW hG=>by
  rw[ay] at hG;have hne:∀k,(k=g∨k=gh)->some k≠au fo:=fun k hk e=>by
   cases fo with
   | none=>cases e
   | some a =>
     injection e with e;rcases hk with rfl | rfl
     . exact hg (e▸h2 a rfl)
     . exact ug hr ho a rfl e.symm
  have hr3:W3.heap[gh]? = _:=(hG.block gh (Array.getElem?_eq_some_iff.1 ((hW.block gh (Array.getElem?_eq_some_iff.1 hr).1).trans hr)).1 (hne gh (Or.inr rfl))).trans ((hW.block gh (Array.getElem?_eq_some_iff.1 hr).1).trans hr);exact⟨hG.cell (hK W hW).1 (hne g (Or.inl rfl)),hG.cell (hK W hW).2 (hne gh (Or.inr rfl)),frozen_of_row _ _ _ _ _ hr3⟩
 have HK:=H9 hK;have TK:=H9 hK2
 have HO:=H9 ho;have HE:=H9 (And.intro hP (And.intro hg (And.intro hr (And.intro ho (And.intro hfn (And.intro h1 h2))))));obtain⟨i0,hi0,hz0,hz1,hz2⟩:=info_parts l9;have Hi:=H9 hi0;have gQ:=H9 hz0;have gK:=H9 hz1;have gT:=H9 hz2
 have HN:Hid (n+1<=maxLen∧(n+1)*32<=140737488355328):=⟨by unfold maxLen;omega,by omega⟩;clear hi0 hz0 hz1 hz2 hP hr ho hK hK2 hg h1 h2 hc hnm hvl e1 e2 hfn;go_enter func142,ntmps142;go_wp2_with fail
 refine JV.o.mono ?_;rintro e w1 ⟨rfl,hB⟩;have hB0:Below w.heap.size w (w1.alloc (.cells #[.string nm,.string vl] 111)):=hB.trans ((Below.refl _ _).alloc hB.size _);have hB1:Below w.heap.size w ((w1.alloc (.cells #[.string nm,.string vl] 111)).alloc (.cells #[.string nm,.string vl] 111)):=hB0.trans ((Below.refl _ _).alloc hB0.size _);have hB2:Below w.heap.size w ((w1.alloc (.cells #[.string nm,.string vl] 111)).alloc (.cells #[.string nm,.string vl] 111)).drew:=hB1.trans ⟨rfl,rfl,rfl,Nat.le_refl _,fun _ _=>rfl⟩;have k1:=(HK.o _ hB0).1;have k3:=(HK.o _ hB0).2;have j1:=(HK.o _ hB1).1;have j3:=(HK.o _ hB1).2;have HB2:=H9 hB2;have Vq:=H9 (aC.below HO.o hB2 (fun a e=>(HO.o.block a e).2));have Nj:Hid (∀j u,([.string nm,.string vl]:List Value)[j]? = some u->((w1.alloc (.cells #[.string nm,.string vl] 111)).alloc (.cells #[.string nm,.string vl] 111)).drew.cell? (Addr.add ⟨w1.heap.size+1,0,none⟩ j)=some u):=fun j u hu=>by
  rw[Addr.add_lit,Nat.zero_add];show((w1.alloc (.cells #[.string nm,.string vl] 111)).alloc (.cells #[.string nm,.string vl] 111)).cell? _=_;rw[World.cell?_alloc_at _ _ _ _ (by simp),List.getElem?_toArray];exact hu
 have HS:=H9 hB.size;clear hB hB0 hB1 hB2 c1 c3;go_wp2;go_region_law
  ((refine step_append_lies _ (by rfl) _ _ _ (by rfl) 0 111 i0 (.agg #[.string ⟨#[]⟩,.string ⟨#[]⟩]) 2 32 underlying66 Hi.o gQ.o gK.o gT.o (by rfl) (by decide) (.slice fo n ak) n _ (by rfl) Vq.o ⟨w1.heap.size+1,0,none⟩ 1 1 [.string nm,.string vl] (by rfl) (by rfl) Nj.o (fun u hu=>by simp at hu;rcases hu with rfl | rfl <;> rfl) (by decide) HN.o.1 HN.o.2 (Nat.zero_le _) (w1.heap.size+2) (by simp) ?_;intro g3 aI w3 hown3 hgrow dJ hlt3;have tZ:=H9 hgrow;have mF:=H9 hown3;have BN:=H9 dJ;have q1:=(TK.o _ _ HB2.o hgrow).1;have q3:=(TK.o _ _ HB2.o hgrow).2.1;have qf:=(TK.o _ _ HB2.o hgrow).2.2;clear hgrow hown3 dJ))
 all_goals (go_wp2;go_ret;refine⟨rfl,?_⟩;exact MI HE.o.1 HE.o.2.1 HE.o.2.2.1 HE.o.2.2.2.1 HE.o.2.2.2.2.1 HE.o.2.2.2.2.2.1 HE.o.2.2.2.2.2.2 HB2.o tZ.o mF.o (BN.o.imp (fun e=>e) (fun e=>by have:=HS.o;omega)))
end Go.Proofs.YtjmndjmhjleabaaGreatDoor