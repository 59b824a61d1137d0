/- Package request, walked: a head's field. -/
import Derived.Test.YtjmndjmhjleabaaGreatDoorAl
import Derived.Test.YtjmndjmhjleabaaGreatDoorAm
import Derived.Test.YtjmndjmhjleabaaGreatDoorPk10
import Derived.Test.YtjmndjmhjleabaaGreatDoorRqA
import Derived.Test.YtjmndjmhjleabaaGreatDoorPk31
import Derived.Deep.RegionLaw
import Derived.Deep.AppendLies
set_option maxHeartbeats 4000000
set_option maxRecDepth 100000
open Go.Proofs.Tryz
namespace Go.Proofs.YtjmndjmhjleabaaGreatDoor
open Go.RowKit
theorem Pv (w:World)(g gh:Nat)(lp bd:Value)(S:Nat->Prop)(h:Rq.Hd)(t:ay)(hP:jg w g lp (.pointer (some ⟨gh,0,none⟩)) false bd 0)(hH:jG w S gh h)(hn:h.fields.length=16):
 Calls prog 142 #[.pointer (some ⟨g,0,none⟩),.string t] w fun e w'=>e=.returned (.int .i64 8)∧w'=w:=by
 obtain⟨fo,gM,hr,ho,h1,h2⟩:=hH;have c1:=hP.c1;have c3:w.cell? ⟨gh,3,none⟩=some (.slice fo 16 gM):=by rw[fK w gh 3 _ _ _ hr];simp[hn]
 clear hP hr ho hn;go_enter func142,ntmps142;go_wp2;go_ret;exact⟨rfl,rfl⟩
theorem Uh (w:World)(g gh:Nat)(lp bd:Value)(S:Nat->Prop)(h:Rq.Hd)(t:ay)(hP:jg w g lp (.pointer (some ⟨gh,0,none⟩)) false bd 0)(hH:jG w S gh h)(hn:h.fields.length≠16)(ht:t.size<=2000)(hc:(Fd.of t.data.toList).code≠0):
 Calls prog 142 #[.pointer (some ⟨g,0,none⟩),.string t] w fun e w'=>e=.returned (.int .i64 ((Fd.of t.data.toList).code:Int))∧aj w w':=by
 obtain⟨fo,gM,hr,ho,h1,h2⟩:=hH;have c1:=hP.c1;have c3:w.cell? ⟨gh,3,none⟩=some (.slice fo h.fields.length gM):=fK w gh 3 _ _ _ hr;have t16:((h.fields.length:Int)==16)=false:=aS.2 (by omega);have HP:=H9 (xJ t w ht);unfold Fd.val at HP;have tc:(((Fd.of t.data.toList).code:Int)==0)=false:=aS.2 (by omega);generalize (Fd.of t.data.toList).code=cc at *;generalize (⟨(Fd.of t.data.toList).name.toArray⟩:ay)=nm at *;generalize (⟨(Fd.of t.data.toList).value.toArray⟩:ay)=vl at *;generalize h.fields.length=nn at *;clear hP hr ho hn hc;go_enter func142,ntmps142;go_wp2_with fail
 refine HP.o.mono ?_;rintro e w1 ⟨rfl,hB⟩;have HB:=H9 hB;clear hB;go_wp2;go_ret;refine⟨rfl,?_⟩;exact HB.o.trans ((fJ _ _).alloc HB.o.size _)
theorem Ui {w W w3:World}{S:Nat->Prop}{g gh n gM g3 gX:Nat}{lp bd:Value}{fo:ak}{h:Rq.Hd}{nm vl:ay}
 (hP:jg w g lp (.pointer (some ⟨gh,0,none⟩)) false bd 0) (hg:¬S g)
 (hr:w.heap[gh]? = some (.cells #[.string ⟨h.method.toArray⟩,.string ⟨h.target.toArray⟩,.int .i64 (h.minor:Int),.slice fo n gM,.int .i64 h.length] 68 (0,0)))
 (ho:gV w 0 111 2 fo gM n (gU (Rq.ny h.fields))) (hn:h.fields.length=n) (h1:S gh) (h2:∀a,fo=some a->S a.block)
 (hB:aj w W) (hG:W.grownBy w3 (Value.slice fo n gM).ownBlock)
 (hO:w3.ownsRow 0 111 2 (.slice (some ⟨g3,0,none⟩) (n+1) gX) (n+1) (gU (Rq.ny h.fields)++[.string nm,.string vl]))
 (hA:(Value.slice fo n gM).ownBlock=some g3∨w.heap.size<=g3) :
 jg (w3.setCell ⟨gh,3,none⟩ (.slice (some ⟨g3,0,none⟩) (n+1) gX)) g lp (.pointer (some ⟨gh,0,none⟩)) false bd 0 ∧
 jG (w3.setCell ⟨gh,3,none⟩ (.slice (some ⟨g3,0,none⟩) (n+1) gX)) (gN S w) gh { h with fields:=h.fields++[(nm.data.toList,vl.data.toList)] } ∧
 Turns S w (w3.setCell ⟨gh,3,none⟩ (.slice (some ⟨g3,0,none⟩) (n+1) gX)):=by
 rw[gP] at hG hA;have hT1:Turns (fun k=>gL fo=some k) w w3:=(Turns.of_below (S:=fun k=>gL fo=some k) hB).trans (Turns.iZ hG (fun k e=>e)) (fun _ e _=>e);have hbs:∀k,gL fo=some k->S k∧k≠gh:=fun k e=>by
  cases fo with
  | none=>cases e
  | some a=>injection e with e;subst e;exact⟨h2 a rfl,AV hr ho a rfl⟩
 have hgh:gh≠g:=fun e=>hg (e▸h1);have hr3:=hT1.row hr (fun e=>(hbs gh e).2 rfl);have hT:Turns S w (w3.setCell ⟨gh,3,none⟩ (.slice (some ⟨g3,0,none⟩) (n+1) gX)):=(hT1.mono (fun k e=>(hbs k e).1)).trans (Turns.setCell S _ _ _ h1) (fun _ e _=>e);have hg3:gh≠g3:=fun e=>by
  subst e;rcases hA with hA | hA
  . exact(hbs _ hA).2 rfl
  . have:=(aL.1 hr).1;omega
 refine⟨hP.turns hT hg,⟨some ⟨g3,0,none⟩,gX,?_,?_,Or.inl h1,fun a e=>?_⟩,hT⟩
 . rw[fO _ _ 3 _ _ _ hr3];simp[hn]
 . have e1:gU (Rq.ny (h.fields++[(nm.data.toList,vl.data.toList)]))=gU (Rq.ny h.fields)++[.string nm,.string vl]:=by
    rw[Rq.yP,qB];rfl
   show gV _ _ _ _ _ _ (h.fields++[(nm.data.toList,vl.data.toList)]).length (gU (Rq.ny (h.fields++[(nm.data.toList,vl.data.toList)])));rw[e1,aW,hn];have Ao:gV w3 0 111 2 (some ⟨g3,0,none⟩) gX (n+1) (gU (Rq.ny h.fields)++[.string nm,.string vl]):=hO;exact Ao.turns (Turns.setCell (fun k=>k=gh) w3 _ _ rfl) (fun a e e2=>by injection e with e;subst e;exact hg3 e2.symm)
 . injection e with e;subst e;rcases hA with hA | hA
   . exact Or.inl (hbs _ hA).1
   . exact Or.inr hA
theorem XP (w:World)(g gh:Nat)(lp bd:Value)(S:Nat->Prop)(h:Rq.Hd)(t:ay)(hP:jg w g lp (.pointer (some ⟨gh,0,none⟩)) false bd 0)(hH:jG w S gh h)(hg:¬S g)(hn:h.fields.length<16)(ht:t.size<=2000)(hc:(Fd.of t.data.toList).code=0):
 Calls prog 142 #[.pointer (some ⟨g,0,none⟩),.string t] w fun e w'=>e=.returned (.int .i64 0)∧jg w' g lp (.pointer (some ⟨gh,0,none⟩)) false bd 0∧jG w' (gN S w) gh { h with fields:=h.fields++[((Fd.of t.data.toList).name,(Fd.of t.data.toList).value)] }∧Turns S w w':=by
 obtain⟨fo,gM,hr,ho,h1,h2⟩:=hH;have c1:=hP.c1;have Mk:=H9 (xJ t w ht);unfold Fd.val at Mk;rw[hc] at Mk;obtain⟨nm,hnm⟩:∃nm:ay,(⟨(Fd.of t.data.toList).name.toArray⟩:ay)=nm:=⟨_,rfl⟩;obtain⟨vl,hvl⟩:∃vl:ay,(⟨(Fd.of t.data.toList).value.toArray⟩:ay)=vl:=⟨_,rfl⟩;have e1:(Fd.of t.data.toList).name=nm.data.toList:=by rw[<-hnm]
 have e2:(Fd.of t.data.toList).value=vl.data.toList:=by rw[<-hvl]
 rw[hnm,hvl] at Mk;rw[e1,e2];obtain⟨n,hfn⟩:∃n,h.fields.length=n:=⟨_,rfl⟩;rw[hfn] at hr ho hn;have hlt:n*2<=32:=by omega
 have c3:w.cell? ⟨gh,3,none⟩=some (.slice fo n gM):=fK w gh 3 _ _ _ hr;have t16:((n:Int)==16)=false:=aS.2 (by omega);have hgh:gh≠g:=fun e=>hg (e▸h1);have hK:∀W,aj w W->W.cell? ⟨g,1,none⟩=some (.pointer (some ⟨gh,0,none⟩))∧W.cell? ⟨gh,3,none⟩=some (.slice fo n gM):=fun W hW =>
  ⟨(hW.cell (gq w _ c1)).trans c1,(hW.cell (gq w _ c3)).trans c3⟩
 have hK2:∀W W3,aj w W->W.grownBy W3 (Value.slice fo n gM).ownBlock->W3.cell? ⟨g,1,none⟩=some (.pointer (some ⟨gh,0,none⟩))∧W3.cell? ⟨gh,3,none⟩=some (.slice fo n gM)∧W3.frozen? ⟨gh,3,none⟩=false:=fun W W3 hW hG=>by
  rw[gP] at hG;have hne:∀k,(k=g∨k=gh)->some k≠gL fo:=fun k hk e=>by
   cases fo with
   | none=>cases e
   | some a =>
     injection e with e;rcases hk with rfl | rfl
     . exact hg (e▸h2 a rfl)
     . exact AV hr ho a rfl e.symm
  have hr3:W3.heap[gh]? = _:=(hG.block gh (aL.1 ((hW.block gh (aL.1 hr).1).trans hr)).1 (hne gh (Or.inr rfl))).trans ((hW.block gh (aL.1 hr).1).trans hr);exact⟨hG.cell (hK W hW).1 (hne g (Or.inl rfl)),hG.cell (hK W hW).2 (hne gh (Or.inr rfl)),fM _ _ _ _ _ hr3⟩
 have HK:=H9 hK;have Yr:=H9 hK2
 have HO:=H9 ho;have HE:=H9 (And.intro hP (And.intro hg (And.intro hr (And.intro ho (And.intro hfn (And.intro h1 h2))))));obtain⟨i0,hi0,hz0,hz1,hz2⟩:=info_parts rU;have Hi:=H9 hi0;have kK:=H9 hz0;have kH:=H9 hz1;have kL:=H9 hz2
 have HN:Hid (n+1<=maxLen∧(n+1)*32<=140737488355328):=⟨by unfold maxLen;omega,by omega⟩;clear hi0 hz0 hz1 hz2 hP hr ho hK hK2 hg h1 h2 hc hnm hvl e1 e2 hfn;go_enter func142,ntmps142;go_wp2_with fail
 refine Mk.o.mono ?_;rintro e w1 ⟨rfl,hB⟩;have hB0:aj w (w1.alloc (.cells #[.string nm,.string vl] 111)):=hB.trans ((fJ _ _).alloc hB.size _);have hB1:aj w ((w1.alloc (.cells #[.string nm,.string vl] 111)).alloc (.cells #[.string nm,.string vl] 111)):=hB0.trans ((fJ _ _).alloc hB0.size _);have hB2:aj w ((w1.alloc (.cells #[.string nm,.string vl] 111)).alloc (.cells #[.string nm,.string vl] 111)).drew:=hB1.trans ⟨rfl,rfl,rfl,aM _,fun _ _=>rfl⟩;have k1:=(HK.o _ hB0).1;have k3:=(HK.o _ hB0).2;have j1:=(HK.o _ hB1).1;have j3:=(HK.o _ hB1).2;have HB2:=H9 hB2;have HOw:=H9 (gV.below HO.o hB2 (fun a e=>(HO.o.block a e).2));have UW:Hid (∀j u,([.string nm,.string vl]:List Value)[j]? = some u->((w1.alloc (.cells #[.string nm,.string vl] 111)).alloc (.cells #[.string nm,.string vl] 111)).drew.cell? (Addr.add ⟨w1.heap.size+1,0,none⟩ j)=some u):=fun j u hu=>by
  rw[gI,bq];show((w1.alloc (.cells #[.string nm,.string vl] 111)).alloc (.cells #[.string nm,.string vl] 111)).cell? _=_;rw[World.cell?_alloc_at _ _ _ _ (by simp),dH];exact hu
 have HS:=H9 hB.size;clear hB hB0 hB1 hB2 c1 c3;go_wp2;go_region_law
  ((refine step_append_lies _ (by rfl) _ _ _ (by rfl) 0 111 i0 (.agg #[.string ⟨#[]⟩,.string ⟨#[]⟩]) 2 32 underlying66 Hi.o kK.o kH.o kL.o (by rfl) (by decide) (.slice fo n gM) n _ (by rfl) HOw.o ⟨w1.heap.size+1,0,none⟩ 1 1 [.string nm,.string vl] (by rfl) (by rfl) UW.o (fun u hu=>by simp at hu;rcases hu with rfl | rfl <;> rfl) (by decide) HN.o.1 HN.o.2 (aA _) (w1.heap.size+2) (by simp) ?_;intro g3 gX w3 hown3 hgrow kC hlt3;have sG:=H9 hgrow;have oD:=H9 hown3;have Jh:=H9 kC;have q1:=(Yr.o _ _ HB2.o hgrow).1;have q3:=(Yr.o _ _ HB2.o hgrow).2.1;have qf:=(Yr.o _ _ HB2.o hgrow).2.2;clear hgrow hown3 kC))
 all_goals (go_wp2;go_ret;refine⟨rfl,?_⟩;exact Ui HE.o.1 HE.o.2.1 HE.o.2.2.1 HE.o.2.2.2.1 HE.o.2.2.2.2.1 HE.o.2.2.2.2.2.1 HE.o.2.2.2.2.2.2 HB2.o sG.o oD.o (Jh.o.imp (fun e=>e) (fun e=>by have:=HS.o;omega)))
end Go.Proofs.YtjmndjmhjleabaaGreatDoor