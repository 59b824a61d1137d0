/- Package request, walked: a head's field. -/
import Derived.Test.YthhklgjjnaeaoaaGreatDoorRqA
import Derived.Deep.AppendLies
open Go.Value renaming string->V,slice->Z,pointer->Q
open Go.Obj renaming cells->K
open Option renaming none->U,some->M
open Bool renaming false->F
set_option maxHeartbeats 4000000
set_option maxRecDepth 100000
open Go.Proofs.Tryz
namespace Go.Proofs.YthhklgjjnaeaoaaGreatDoor
open Go.RowKit
theorem O5 (w:World)(g a:Nat)(b bd:Value)(S:Nat->Prop)(h:Rq.Hd)(t:ay)(c:iW w g b (Q (M ⟨a,0,U⟩)) F bd 0)(d:jr w S a h)(f:h.fields.length=16):
 Calls prog 186 #[Q (M ⟨g,0,U⟩),V t] w fun e w'=>e=.returned (.int .i64 8)∧w'=w:=by
 obtain⟨i,j,k,l,m,n⟩:=d;have o:=c.c1;have p:w.cell? ⟨a,3,U⟩=M (Z i 16 j):=by rw[eZ w a 3 _ _ _ k];simp[f]
 go_enter func186,ntmps186;go_wp2;go_ret;exact⟨rfl,rfl⟩
theorem Ub (w:World)(g a:Nat)(d bd:Value)(S:Nat->Prop)(h:Rq.Hd)(t:ay)(f:iW w g d (Q (M ⟨a,0,U⟩)) F bd 0)(i:jr w S a h)(m:h.fields.length≠16)(j:t.size<=2000)(n:(Fd.of t.data.toList).code≠0):
 Calls prog 186 #[Q (M ⟨g,0,U⟩),V t] w fun e w'=>e=.returned (.int .i64 ((Fd.of t.data.toList).code:Int))∧Below w.heap.size w w':=by
 obtain⟨o,p,k,q,r,s⟩:=i;have u:=f.c1;have v:=eZ w a 3 _ _ _ k;have l:((h.fields.length:Int)==16)=F:=aR.2 (by omega);have b:=wT t w j;unfold Fd.val at b;have x:(((Fd.of t.data.toList).code:Int)==0)=F:=aR.2 (by omega);generalize (Fd.of t.data.toList).code=y at *;generalize (⟨(Fd.of t.data.toList).name.toArray⟩:ay)=z at *;generalize (⟨(Fd.of t.data.toList).value.toArray⟩:ay)=B at *;generalize h.fields.length=C at *;go_enter func186,ntmps186;go_wp2_with fail
 refine b.mono ?_;rintro e D ⟨rfl,c⟩;go_wp2;go_ret;refine⟨rfl,?_⟩;exact c.trans ((eY _ _).alloc c.size _)
theorem Uc {w W f:World}{S:Nat->Prop}{g b n fZ c j:Nat}{t bd:Value}{fo:ak}{h:Rq.Hd}{l m:ay}
 (z:iW w g t (Q (M ⟨b,0,U⟩)) F bd 0) (u:¬S g)
 (p:w.heap[b]? = M (K #[V ⟨h.method.toArray⟩,V ⟨h.target.toArray⟩,.int .i64 (h.minor:Int),Z fo n fZ,.int .i64 h.length] 82 (0,0)))
 (B:gH w 0 131 2 fo fZ n (gG (Rq.nu h.fields))) (v:h.fields.length=n) (q:S b) (C:∀a,fo=M a->S a.block)
 (D:Below w.heap.size w W) (x:W.grownBy f (Value.slice fo n fZ).ownBlock)
 (G:f.ownsRow 0 131 2 (Z (M ⟨c,0,U⟩) (n+1) j) (n+1) (gG (Rq.nu h.fields)++[V l,V m]))
 (d:(Value.slice fo n fZ).ownBlock=M c∨w.heap.size<=c) :
 iW (f.setCell ⟨b,3,U⟩ (Z (M ⟨c,0,U⟩) (n+1) j)) g t (Q (M ⟨b,0,U⟩)) F bd 0 ∧
 jr (f.setCell ⟨b,3,U⟩ (Z (M ⟨c,0,U⟩) (n+1) j)) (gB S w) b { h with fields:=h.fields++[(l.data.toList,m.data.toList)] } ∧
 Turns S w (f.setCell ⟨b,3,U⟩ (Z (M ⟨c,0,U⟩) (n+1) j)):=by
 rw[gD] at x d;have o:Turns (fun k=>fV fo=M k) w f:=(Turns.of_below (S:=fun k=>fV fo=M k) D).trans (Turns.iL x (fun k e=>e)) (fun _ e _=>e);have i:∀k,fV fo=M k->S k∧k≠b:=fun k e=>by
  cases fo with
  | none=>cases e
  | some a=>injection e with e;subst e;exact⟨C a rfl,Aa p B a rfl⟩
 have H:b≠g:=fun e=>u (e▸q);have r:=o.row p (fun e=>(i b e).2 rfl);have y:Turns S w (f.setCell ⟨b,3,U⟩ (Z (M ⟨c,0,U⟩) (n+1) j)):=(o.mono (fun k e=>(i k e).1)).trans (Turns.setCell S _ _ _ q) (fun _ e _=>e);have s:b≠c:=fun e=>by
  subst e;rcases d with d | d
  . exact(i _ d).2 rfl
  . have:=(aL.1 p).1;omega
 refine⟨z.turns y u,⟨M ⟨c,0,U⟩,j,?_,?_,Or.inl q,fun a e=>?_⟩,y⟩
 . rw[fu _ _ 3 _ _ _ r];simp[v]
 . have L:gG (Rq.nu (h.fields++[(l.data.toList,m.data.toList)]))=gG (Rq.nu h.fields)++[V l,V m]:=by
    rw[Rq.DC,pW];rfl
   show gH _ _ _ _ _ _ (h.fields++[(l.data.toList,m.data.toList)]).length (gG (Rq.nu (h.fields++[(l.data.toList,m.data.toList)])));rw[L,aV,v];have N:gH f 0 131 2 (M ⟨c,0,U⟩) j (n+1) (gG (Rq.nu h.fields)++[V l,V m]):=G;exact N.turns (Turns.setCell (fun k=>k=b) f _ _ rfl) (fun a e T=>by injection e with e;subst e;exact s T.symm)
 . injection e with e;subst e;rcases d with d | d
   . exact Or.inl (i _ d).1
   . exact Or.inr d
theorem XE (w:World)(g c:Nat)(lp bd:Value)(S:Nat->Prop)(h:Rq.Hd)(t:ay)(hP:iW w g lp (Q (M ⟨c,0,U⟩)) F bd 0)(hH:jr w S c h)(hg:¬S g)(hn:h.fields.length<16)(ht:t.size<=2000)(hc:(Fd.of t.data.toList).code=0):
 Calls prog 186 #[Q (M ⟨g,0,U⟩),V t] w fun e w'=>e=.returned (.int .i64 0)∧iW w' g lp (Q (M ⟨c,0,U⟩)) F bd 0∧jr w' (gB S w) c { h with fields:=h.fields++[((Fd.of t.data.toList).name,(Fd.of t.data.toList).value)] }∧Turns S w w':=by
 obtain⟨s,L,m,N,h1,h2⟩:=hH;have c1:=hP.c1;have Yz:=H9 (wT t w ht);unfold Fd.val at Yz;rw[hc] at Yz;obtain⟨d,v⟩:∃d:ay,(⟨(Fd.of t.data.toList).name.toArray⟩:ay)=d:=⟨_,rfl⟩;obtain⟨f,x⟩:∃f:ay,(⟨(Fd.of t.data.toList).value.toArray⟩:ay)=f:=⟨_,rfl⟩;have e1:(Fd.of t.data.toList).name=d.data.toList:=by rw[<-v]
 have e2:(Fd.of t.data.toList).value=f.data.toList:=by rw[<-x]
 rw[v,x] at Yz;rw[e1,e2];obtain⟨n,y⟩:∃n,h.fields.length=n:=⟨_,rfl⟩;rw[y] at m N hn;have hlt:n*2<=32:=by omega
 have c3:w.cell? ⟨c,3,U⟩=M (Z s n L):=eZ w c 3 _ _ _ m;have t16:((n:Int)==16)=F:=aR.2 (by omega);have hgh:c≠g:=fun e=>hg (e▸h1);have hK:∀W,Below w.heap.size w W->W.cell? ⟨g,1,U⟩=M (Q (M ⟨c,0,U⟩))∧W.cell? ⟨c,3,U⟩=M (Z s n L):=fun W z =>
  ⟨(z.cell (fH w _ c1)).trans c1,(z.cell (fH w _ c3)).trans c3⟩
 have T:∀W H,Below w.heap.size w W->W.grownBy H (Value.slice s n L).ownBlock->H.cell? ⟨g,1,U⟩=M (Q (M ⟨c,0,U⟩))∧H.cell? ⟨c,3,U⟩=M (Z s n L)∧H.frozen? ⟨c,3,U⟩=F:=fun W H z hG=>by
  rw[gD] at hG;have B:∀k,(k=g∨k=c)->M k≠fV s:=fun k hk e=>by
   cases s with
   | none=>cases e
   | some a =>
     injection e with e;rcases hk with rfl | rfl
     . exact hg (e▸h2 a rfl)
     . exact Aa m N a rfl e.symm
  have hr3:H.heap[c]? = _:=(hG.block c (aL.1 ((z.block c (aL.1 m).1).trans m)).1 (B c (Or.inr rfl))).trans ((z.block c (aL.1 m).1).trans m);exact⟨hG.cell (hK W z).1 (B g (Or.inl rfl)),hG.cell (hK W z).2 (B c (Or.inr rfl)),fq _ _ _ _ _ hr3⟩
 have HK:=H9 hK;have C:=H9 T
 have HO:=H9 N;have D:=H9 (And.intro hP (And.intro hg (And.intro m (And.intro N (And.intro y (And.intro h1 h2))))));obtain⟨i0,hi0,hz0,hz1,hz2⟩:=info_parts pq;have Hi:=H9 hi0;have kY:=H9 hz0;have kT:=H9 hz1;have kZ:=H9 hz2
 have HN:Hid (n+1<=maxLen∧(n+1)*32<=140737488355328):=⟨by unfold maxLen;omega,by omega⟩;clear hi0 hz0 hz1 hz2 hP m N hK T hg h1 h2 hc v x e1 e2 y;go_enter func186,ntmps186;go_wp2_with fail
 refine Yz.o.mono ?_;rintro e r ⟨rfl,hB⟩;have i:Below w.heap.size w (r.alloc (K #[V d,V f] 131)):=hB.trans ((eY _ _).alloc hB.size _);have p:Below w.heap.size w ((r.alloc (K #[V d,V f] 131)).alloc (K #[V d,V f] 131)):=i.trans ((eY _ _).alloc i.size _);have G:Below w.heap.size w ((r.alloc (K #[V d,V f] 131)).alloc (K #[V d,V f] 131)).drew:=p.trans ⟨rfl,rfl,rfl,aM _,fun _ _=>rfl⟩;have k1:=(HK.o _ i).1;have k3:=(HK.o _ i).2;have j1:=(HK.o _ p).1;have j3:=(HK.o _ p).2;have q:=H9 G;have UK:=H9 (gH.below HO.o G (fun a e=>(HO.o.block a e).2));have WT:Hid (∀j u,([V d,V f]:List Value)[j]? = M u->((r.alloc (K #[V d,V f] 131)).alloc (K #[V d,V f] 131)).drew.cell? (Addr.add ⟨r.heap.size+1,0,U⟩ j)=M u):=fun j u hu=>by
  rw[fQ,aZ];show((r.alloc (K #[V d,V f] 131)).alloc (K #[V d,V f] 131)).cell? _=_;rw[World.cell?_alloc_at _ _ _ _ (by simp),dD];exact hu
 have HS:=H9 hB.size;clear hB i p G c1 c3;go_wp2;go_region_law
  ((refine step_append_lies _ (by rfl) _ _ _ (by rfl) 0 131 i0 (.agg #[V ⟨#[]⟩,V ⟨#[]⟩]) 2 32 underlying80 Hi.o kY.o kT.o kZ.o (by rfl) (by decide) (Z s n L) n _ (by rfl) UK.o ⟨r.heap.size+1,0,U⟩ 1 1 [V d,V f] (by rfl) (by rfl) WT.o (fun u hu=>by simp at hu;rcases hu with rfl | rfl <;> rfl) (by decide) HN.o.1 HN.o.2 (aA _) (r.heap.size+2) (by simp) ?_;intro g3 gZ w3 l b jQ hlt3;have xU:=H9 b;have rZ:=H9 l;have Jy:=H9 jQ;have q1:=(C.o _ _ q.o b).1;have q3:=(C.o _ _ q.o b).2.1;have qf:=(C.o _ _ q.o b).2.2;clear b l jQ))
 all_goals (go_wp2;go_ret;refine⟨rfl,?_⟩;exact Uc D.o.1 D.o.2.1 D.o.2.2.1 D.o.2.2.2.1 D.o.2.2.2.2.1 D.o.2.2.2.2.2.1 D.o.2.2.2.2.2.2 q.o xU.o rZ.o (Jy.o.imp (fun e=>e) (fun e=>by have:=HS.o;omega)))
end Go.Proofs.YthhklgjjnaeaoaaGreatDoor