import Derived.Test.YtodmelffkfbalaaGreatDoorRqA
import Derived.Deep.AppendLies
open Go.Value renaming string->V,slice->Z,pointer->Q
open Go.Obj renaming cells->K
open Option renaming none->U,some->M
open Bool renaming false->F
set_option maxHeartbeats 4000000
set_option maxRecDepth 100000
open Go.Proofs.Tryz
namespace Go.Proofs.YtodmelffkfbalaaGreatDoor
open Go.RowKit
theorem Oy (w:World)(g a:Nat)(b bd:Value)(S:Nat->Prop)(h:df)(t:ae)(c:cl w g b (Q (M ⟨a,0,U⟩)) F bd 0)(d:fU w S a h)(f:h.a.length=16):
 Calls prog 224 #[Q (M ⟨g,0,U⟩),V t] w fun e w'=>e=.returned (.int .i64 8)∧w'=w:=by
 obtain⟨i,j,k,l,m,n⟩:=d;have o:=c.j;have p:w.cell? ⟨a,3,U⟩=M (Z i 16 j):=by rw[aq w a 3 _ _ _ k];simp[f]
 go_enter func224,ntmps224;go_wp2;go_ret;exact⟨rfl,rfl⟩
theorem Rt (w:World)(g a:Nat)(d bd:Value)(S:Nat->Prop)(h:df)(t:ae)(f:cl w g d (Q (M ⟨a,0,U⟩)) F bd 0)(i:fU w S a h)(m:h.a.length≠16)(j:t.size<=2000)(n:(aZ t.data.toList).a≠0):
 Calls prog 224 #[Q (M ⟨g,0,U⟩),V t] w fun e w'=>e=.returned (.int .i64 ((aZ t.data.toList).a:Int))∧Below w.heap.size w w':=by
 obtain⟨o,p,k,q,r,s⟩:=i;have u:=f.j;have v:=aq w a 3 _ _ _ k;have l:((h.a.length:Int)==16)=F:=aO.2 (by omega);have b:=yt t w j;unfold tZ at b;have x:(((aZ t.data.toList).a:Int)==0)=F:=aO.2 (by omega);generalize (aZ t.data.toList).a=y at *;generalize (⟨(aZ t.data.toList).b.toArray⟩:ae)=z at *;generalize (⟨(aZ t.data.toList).c.toArray⟩:ae)=B at *;generalize h.a.length=C at *;go_enter func224,ntmps224;go_wp2_with fail;refine b.mono ?_;rintro e D ⟨rfl,c⟩;go_wp2;go_ret;refine⟨rfl,?_⟩;exact c.trans ((ar _ _).alloc c.size _)
theorem Ru {w W f:World}{S:Nat->Prop}{g b n fZ c j:Nat}{t bd:Value}{fo:ag}{h:df}{l m:ae}
 (z:cl w g t (Q (M ⟨b,0,U⟩)) F bd 0) (u:¬S g)
 (p:w.heap[b]? = M (K #[V ⟨h.e.toArray⟩,V ⟨h.b.toArray⟩,.int .i64 (h.d:Int),Z fo n fZ,.int .i64 h.c] 82 (0,0)))
 (B:aL w 0 148 2 fo fZ n (aJ (cf h.a))) (v:h.a.length=n) (q:S b) (C:∀a,fo=M a->S a.block)
 (D:Below w.heap.size w W) (x:W.grownBy f (Value.slice fo n fZ).ownBlock)
 (G:f.ownsRow 0 148 2 (Z (M ⟨c,0,U⟩) (n+1) j) (n+1) (aJ (cf h.a)++[V l,V m]))
 (d:(Value.slice fo n fZ).ownBlock=M c∨w.heap.size<=c) :
 cl (f.setCell ⟨b,3,U⟩ (Z (M ⟨c,0,U⟩) (n+1) j)) g t (Q (M ⟨b,0,U⟩)) F bd 0 ∧
 fU (f.setCell ⟨b,3,U⟩ (Z (M ⟨c,0,U⟩) (n+1) j)) (ay S w) b { h with a:=h.a++[(l.data.toList,m.data.toList)] } ∧
 ak S w (f.setCell ⟨b,3,U⟩ (Z (M ⟨c,0,U⟩) (n+1) j)):=by
 rw[dp] at x d;have o:ak (fun k=>aw fo=M k) w f:=(ak.e (S:=fun k=>aw fo=M k) D).a (ak.y x (fun k e=>e)) (fun _ e _=>e);have i:∀k,aw fo=M k->S k∧k≠b:=fun k e=>by
  cases fo with
  | none=>cases e
  | some a=>injection e with e;subst e;exact⟨C a rfl,yC p B a rfl⟩
 have H:b≠g:=fun e=>u (e▸q);have r:=o.q p (fun e=>(i b e).2 rfl);have y:ak S w (f.setCell ⟨b,3,U⟩ (Z (M ⟨c,0,U⟩) (n+1) j)):=(o.f (fun k e=>(i k e).1)).a (ak.j S _ _ _ q) (fun _ e _=>e);have s:b≠c:=fun e=>by
  subst e;rcases d with d | d
  . exact(i _ d).2 rfl
  . have:=(bM.1 p).1;omega
 refine⟨z.e y u,⟨M ⟨c,0,U⟩,j,?_,?_,Or.inl q,fun a e=>?_⟩,y⟩
 . rw[aR _ _ 3 _ _ _ r];simp[v]
 . have L:aJ (cf (h.a++[(l.data.toList,m.data.toList)]))=aJ (cf h.a)++[V l,V m]:=by
    rw[F3,ye];rfl
   show aL _ _ _ _ _ _ (h.a++[(l.data.toList,m.data.toList)]).length (aJ (cf (h.a++[(l.data.toList,m.data.toList)])));rw[L,aD,v];have N:aL f 0 148 2 (M ⟨c,0,U⟩) j (n+1) (aJ (cf h.a)++[V l,V m]):=G;exact N.f (ak.j (fun k=>k=b) f _ _ rfl) (fun a e T=>by injection e with e;subst e;exact s T.symm)
 . injection e with e;subst e;rcases d with d | d
   . exact Or.inl (i _ d).1
   . exact Or.inr d
theorem RX (w:World)(g c:Nat)(lp bd:Value)(S:Nat->Prop)(h:df)(t:ae)(hP:cl w g lp (Q (M ⟨c,0,U⟩)) F bd 0)(hH:fU w S c h)(hg:¬S g)(hn:h.a.length<16)(ht:t.size<=2000)(hc:(aZ t.data.toList).a=0):
 Calls prog 224 #[Q (M ⟨g,0,U⟩),V t] w fun e w'=>e=.returned (.int .i64 0)∧cl w' g lp (Q (M ⟨c,0,U⟩)) F bd 0∧fU w' (ay S w) c { h with a:=h.a++[((aZ t.data.toList).b,(aZ t.data.toList).c)] }∧ak S w w':=by
 obtain⟨s,L,m,N,h1,h2⟩:=hH;have c1:=hP.j;have Z8:=aa (yt t w ht);unfold tZ at Z8;rw[hc] at Z8;obtain⟨d,v⟩:∃d:ae,(⟨(aZ t.data.toList).b.toArray⟩:ae)=d:=⟨_,rfl⟩;obtain⟨f,x⟩:∃f:ae,(⟨(aZ t.data.toList).c.toArray⟩:ae)=f:=⟨_,rfl⟩;have e1:(aZ t.data.toList).b=d.data.toList:=by rw[<-v]
 have e2:(aZ t.data.toList).c=f.data.toList:=by rw[<-x]
 rw[v,x] at Z8;rw[e1,e2];obtain⟨n,y⟩:∃n,h.a.length=n:=⟨_,rfl⟩;rw[y] at m N hn;have hlt:n*2<=32:=by omega
 have c3:w.cell? ⟨c,3,U⟩=M (Z s n L):=aq w c 3 _ _ _ m;have t16:((n:Int)==16)=F:=aO.2 (by omega);have hgh:c≠g:=fun e=>hg (e▸h1);have hK:∀W,Below w.heap.size w W->W.cell? ⟨g,1,U⟩=M (Q (M ⟨c,0,U⟩))∧W.cell? ⟨c,3,U⟩=M (Z s n L):=fun W z =>
  ⟨(z.cell (ch w _ c1)).trans c1,(z.cell (ch w _ c3)).trans c3⟩
 have T:∀W H,Below w.heap.size w W->W.grownBy H (Value.slice s n L).ownBlock->H.cell? ⟨g,1,U⟩=M (Q (M ⟨c,0,U⟩))∧H.cell? ⟨c,3,U⟩=M (Z s n L)∧H.frozen? ⟨c,3,U⟩=F:=fun W H z hG=>by
  rw[dp] at hG;have B:∀k,(k=g∨k=c)->M k≠aw s:=fun k hk e=>by
   cases s with
   | none=>cases e
   | some a =>
     injection e with e;rcases hk with rfl | rfl
     . exact hg (e▸h2 a rfl)
     . exact yC m N a rfl e.symm
  have hr3:H.heap[c]? = _:=(hG.block c (bM.1 ((z.block c (bM.1 m).1).trans m)).1 (B c (Or.inr rfl))).trans ((z.block c (bM.1 m).1).trans m);exact⟨hG.cell (hK W z).1 (B g (Or.inl rfl)),hG.cell (hK W z).2 (B c (Or.inr rfl)),aP _ _ _ _ _ hr3⟩
 have HK:=aa hK;have C:=aa T
 have HO:=aa N;have D:=aa (And.intro hP (And.intro hg (And.intro m (And.intro N (And.intro y (And.intro h1 h2))))));obtain⟨i0,hi0,hz0,hz1,hz2⟩:=info_parts pX;have Hi:=aa hi0;have kS:=aa hz0;have kM:=aa hz1;have kT:=aa hz2
 have HN:Hid (n+1<=maxLen∧(n+1)*32<=140737488355328):=⟨by unfold maxLen;omega,by omega⟩;clear hi0 hz0 hz1 hz2 hP m N hK T hg h1 h2 hc v x e1 e2 y;go_enter func224,ntmps224;go_wp2_with fail;refine Z8.o.mono ?_;rintro e r ⟨rfl,hB⟩;have i:Below w.heap.size w (r.alloc (K #[V d,V f] 148)):=hB.trans ((ar _ _).alloc hB.size _);have p:Below w.heap.size w ((r.alloc (K #[V d,V f] 148)).alloc (K #[V d,V f] 148)):=i.trans ((ar _ _).alloc i.size _);have G:Below w.heap.size w ((r.alloc (K #[V d,V f] 148)).alloc (K #[V d,V f] 148)).drew:=p.trans ⟨rfl,rfl,rfl,am _,fun _ _=>rfl⟩;have k1:=(HK.o _ i).1;have k3:=(HK.o _ i).2;have j1:=(HK.o _ p).1;have j3:=(HK.o _ p).2;have q:=aa G;have Wi:=aa (aL.below HO.o G (fun a e=>(HO.o.e a e).2));have Yr:Hid (∀j u,([V d,V f]:List Value)[j]? = M u->((r.alloc (K #[V d,V f] 148)).alloc (K #[V d,V f] 148)).drew.cell? (Addr.add ⟨r.heap.size+1,0,U⟩ j)=M u):=fun j u hu=>by
  rw[gg,eh];show((r.alloc (K #[V d,V f] 148)).alloc (K #[V d,V f] 148)).cell? _=_;rw[World.cell?_alloc_at _ _ _ _ (by simp),mB];exact hu
 have HS:=aa hB.size;clear hB i p G c1 c3;go_wp2;go_region_law
  ((refine step_append_lies _ (by rfl) _ _ _ (by rfl) 0 148 i0 (.agg #[V ⟨#[]⟩,V ⟨#[]⟩]) 2 32 underlying80 Hi.o kS.o kM.o kT.o (by rfl) (by decide) (Z s n L) n _ (by rfl) Wi.o ⟨r.heap.size+1,0,U⟩ 1 1 [V d,V f] (by rfl) (by rfl) Yr.o (fun u hu=>by simp at hu;rcases hu with rfl | rfl <;> rfl) (by decide) HN.o.1 HN.o.2 (ax _) (r.heap.size+2) (by simp) ?_;intro g3 iw w3 l b kE hlt3;have yK:=aa b;have sW:=aa l;have Ki:=aa kE;have q1:=(C.o _ _ q.o b).1;have q3:=(C.o _ _ q.o b).2.1;have qf:=(C.o _ _ q.o b).2.2;clear b l kE))
 all_goals (go_wp2;go_ret;refine⟨rfl,?_⟩;exact Ru D.o.1 D.o.2.1 D.o.2.2.1 D.o.2.2.2.1 D.o.2.2.2.2.1 D.o.2.2.2.2.2.1 D.o.2.2.2.2.2.2 q.o yK.o sW.o (Ki.o.imp (fun e=>e) (fun e=>by have:=HS.o;omega)))
