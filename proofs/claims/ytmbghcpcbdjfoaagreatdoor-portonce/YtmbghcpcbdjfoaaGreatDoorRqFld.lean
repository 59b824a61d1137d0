import Derived.Test.YtmbghcpcbdjfoaaGreatDoorRqA
import Derived.Deep.AppendLies
open Go.Value renaming string->V,slice->Z,pointer->Q
open Go.Obj renaming cells->K
open Option renaming none->U,some->M
open Bool renaming false->F
set_option maxHeartbeats 4000000
set_option maxRecDepth 100000
open Go.Proofs.Tryz
namespace Go.Proofs.YtmbghcpcbdjfoaaGreatDoor
open Go.RowKit
theorem OQ (w:World)(g a:Nat)(b bd:Value)(S:Nat->Prop)(h:cf)(t:ag)(c:cn w g b (Q (M ⟨a,0,U⟩)) F bd 0)(d:gw w S a h)(f:h.a.length=16):
 Calls prog 184 #[Q (M ⟨g,0,U⟩),V t] w fun e w'=>e=.returned (.int .i64 8)∧w'=w:=by
 obtain⟨i,j,k,l,m,n⟩:=d;have o:=c.f;have p:w.cell? ⟨a,3,U⟩=M (Z i 16 j):=by rw[am w a 3 _ _ _ k];simp[f]
 go_enter func184,ntmps184;go_wp2;go_ret;exact⟨rfl,rfl⟩
theorem R4 (w:World)(g a:Nat)(d bd:Value)(S:Nat->Prop)(h:cf)(t:ag)(f:cn w g d (Q (M ⟨a,0,U⟩)) F bd 0)(i:gw w S a h)(m:h.a.length≠16)(j:t.size<=2000)(n:(aP t.data.toList).a≠0):
 Calls prog 184 #[Q (M ⟨g,0,U⟩),V t] w fun e w'=>e=.returned (.int .i64 ((aP t.data.toList).a:Int))∧Below w.heap.size w w':=by
 obtain⟨o,p,k,q,r,s⟩:=i;have u:=f.f;have v:=am w a 3 _ _ _ k;have l:((h.a.length:Int)==16)=F:=aO.2 (by omega);have b:=zs t w j;unfold qT at b;have x:(((aP t.data.toList).a:Int)==0)=F:=aO.2 (by omega);generalize (aP t.data.toList).a=y at *;generalize (⟨(aP t.data.toList).b.toArray⟩:ag)=z at *;generalize (⟨(aP t.data.toList).c.toArray⟩:ag)=B at *;generalize h.a.length=C at *;go_enter func184,ntmps184;go_wp2_with fail;refine b.mono ?_;rintro e D ⟨rfl,c⟩;go_wp2;go_ret;refine⟨rfl,?_⟩;exact c.trans ((aq _ _).alloc c.size _)
theorem R5 {w W f:World}{S:Nat->Prop}{g b n gG c j:Nat}{t bd:Value}{fo:ai}{h:cf}{l m:ag}
 (z:cn w g t (Q (M ⟨b,0,U⟩)) F bd 0) (u:¬S g)
 (p:w.heap[b]? = M (K #[V ⟨h.c.toArray⟩,V ⟨h.b.toArray⟩,.int .i64 (h.e:Int),Z fo n gG,.int .i64 h.d] 82 (0,0)))
 (B:aG w 0 128 2 fo gG n (aI (bL h.a))) (v:h.a.length=n) (q:S b) (C:∀a,fo=M a->S a.block)
 (D:Below w.heap.size w W) (x:W.grownBy f (Value.slice fo n gG).ownBlock)
 (G:f.ownsRow 0 128 2 (Z (M ⟨c,0,U⟩) (n+1) j) (n+1) (aI (bL h.a)++[V l,V m]))
 (d:(Value.slice fo n gG).ownBlock=M c∨w.heap.size<=c) :
 cn (f.setCell ⟨b,3,U⟩ (Z (M ⟨c,0,U⟩) (n+1) j)) g t (Q (M ⟨b,0,U⟩)) F bd 0 ∧
 gw (f.setCell ⟨b,3,U⟩ (Z (M ⟨c,0,U⟩) (n+1) j)) (aB S w) b { h with a:=h.a++[(l.data.toList,m.data.toList)] } ∧
 al S w (f.setCell ⟨b,3,U⟩ (Z (M ⟨c,0,U⟩) (n+1) j)):=by
 rw[dI] at x d;have o:al (fun k=>au fo=M k) w f:=(al.d (S:=fun k=>au fo=M k) D).a (al.q x (fun k e=>e)) (fun _ e _=>e);have i:∀k,au fo=M k->S k∧k≠b:=fun k e=>by
  cases fo with
  | none=>cases e
  | some a=>injection e with e;subst e;exact⟨C a rfl,zt p B a rfl⟩
 have H:b≠g:=fun e=>u (e▸q);have r:=o.j p (fun e=>(i b e).2 rfl);have y:al S w (f.setCell ⟨b,3,U⟩ (Z (M ⟨c,0,U⟩) (n+1) j)):=(o.e (fun k e=>(i k e).1)).a (al.f S _ _ _ q) (fun _ e _=>e);have s:b≠c:=fun e=>by
  subst e;rcases d with d | d
  . exact(i _ d).2 rfl
  . have:=(bH.1 p).1;omega
 refine⟨z.d y u,⟨M ⟨c,0,U⟩,j,?_,?_,Or.inl q,fun a e=>?_⟩,y⟩
 . rw[aQ _ _ 3 _ _ _ r];simp[v]
 . have L:aI (bL (h.a++[(l.data.toList,m.data.toList)]))=aI (bL h.a)++[V l,V m]:=by
    rw[BQ,wI];rfl
   show aG _ _ _ _ _ _ (h.a++[(l.data.toList,m.data.toList)]).length (aI (bL (h.a++[(l.data.toList,m.data.toList)])));rw[L,aF,v];have N:aG f 0 128 2 (M ⟨c,0,U⟩) j (n+1) (aI (bL h.a)++[V l,V m]):=G;exact N.e (al.f (fun k=>k=b) f _ _ rfl) (fun a e T=>by injection e with e;subst e;exact s T.symm)
 . injection e with e;subst e;rcases d with d | d
   . exact Or.inl (i _ d).1
   . exact Or.inr d
theorem Tt (w:World)(g c:Nat)(lp bd:Value)(S:Nat->Prop)(h:cf)(t:ag)(hP:cn w g lp (Q (M ⟨c,0,U⟩)) F bd 0)(hH:gw w S c h)(hg:¬S g)(hn:h.a.length<16)(ht:t.size<=2000)(hc:(aP t.data.toList).a=0):
 Calls prog 184 #[Q (M ⟨g,0,U⟩),V t] w fun e w'=>e=.returned (.int .i64 0)∧cn w' g lp (Q (M ⟨c,0,U⟩)) F bd 0∧gw w' (aB S w) c { h with a:=h.a++[((aP t.data.toList).b,(aP t.data.toList).c)] }∧al S w w':=by
 obtain⟨v,N,m,T,h1,h2⟩:=hH;have c1:=hP.f;have p:=aa (zs t w ht);unfold qT at p;rw[hc] at p;obtain⟨d,x⟩:∃d:ag,(⟨(aP t.data.toList).b.toArray⟩:ag)=d:=⟨_,rfl⟩;obtain⟨f,y⟩:∃f:ag,(⟨(aP t.data.toList).c.toArray⟩:ag)=f:=⟨_,rfl⟩;have e1:(aP t.data.toList).b=d.data.toList:=by rw[<-x]
 have e2:(aP t.data.toList).c=f.data.toList:=by rw[<-y]
 rw[x,y] at p;rw[e1,e2];obtain⟨n,z⟩:∃n,h.a.length=n:=⟨_,rfl⟩;rw[z] at m T hn;have hlt:n*2<=32:=by omega
 have c3:w.cell? ⟨c,3,U⟩=M (Z v n N):=am w c 3 _ _ _ m;have t16:((n:Int)==16)=F:=aO.2 (by omega);have hgh:c≠g:=fun e=>hg (e▸h1);have hK:∀W,Below w.heap.size w W->W.cell? ⟨g,1,U⟩=M (Q (M ⟨c,0,U⟩))∧W.cell? ⟨c,3,U⟩=M (Z v n N):=fun W B =>
  ⟨(B.cell (bI w _ c1)).trans c1,(B.cell (bI w _ c3)).trans c3⟩
 have hK2:∀W L,Below w.heap.size w W->W.grownBy L (Value.slice v n N).ownBlock->L.cell? ⟨g,1,U⟩=M (Q (M ⟨c,0,U⟩))∧L.cell? ⟨c,3,U⟩=M (Z v n N)∧L.frozen? ⟨c,3,U⟩=F:=fun W L B hG=>by
  rw[dI] at hG;have C:∀k,(k=g∨k=c)->M k≠au v:=fun k hk e=>by
   cases v with
   | none=>cases e
   | some a =>
     injection e with e;rcases hk with rfl | rfl
     . exact hg (e▸h2 a rfl)
     . exact zt m T a rfl e.symm
  have hr3:L.heap[c]? = _:=(hG.block c (bH.1 ((B.block c (bH.1 m).1).trans m)).1 (C c (Or.inr rfl))).trans ((B.block c (bH.1 m).1).trans m);exact⟨hG.cell (hK W B).1 (C g (Or.inl rfl)),hG.cell (hK W B).2 (C c (Or.inr rfl)),aD _ _ _ _ _ hr3⟩
 have HK:=aa hK;have D:=aa hK2
 have HO:=aa T;have G:=aa (And.intro hP (And.intro hg (And.intro m (And.intro T (And.intro z (And.intro h1 h2))))));obtain⟨i0,hi0,hz0,hz1,hz2⟩:=info_parts pv;have Hi:=aa hi0;have kT:=aa hz0;have kL:=aa hz1;have kU:=aa hz2
 have HN:Hid (n+1<=maxLen∧(n+1)*32<=140737488355328):=⟨by unfold maxLen;omega,by omega⟩;clear hi0 hz0 hz1 hz2 hP m T hK hK2 hg h1 h2 hc x y e1 e2 z;go_enter func184,ntmps184;go_wp2_with fail;refine p.o.mono ?_;rintro e s ⟨rfl,hB⟩;have i:Below w.heap.size w (s.alloc (K #[V d,V f] 128)):=hB.trans ((aq _ _).alloc hB.size _);have q:Below w.heap.size w ((s.alloc (K #[V d,V f] 128)).alloc (K #[V d,V f] 128)):=i.trans ((aq _ _).alloc i.size _);have H:Below w.heap.size w ((s.alloc (K #[V d,V f] 128)).alloc (K #[V d,V f] 128)).drew:=q.trans ⟨rfl,rfl,rfl,ak _,fun _ _=>rfl⟩;have k1:=(HK.o _ i).1;have k3:=(HK.o _ i).2;have j1:=(HK.o _ q).1;have j3:=(HK.o _ q).2;have r:=aa H;have XP:=aa (aG.below HO.o H (fun a e=>(HO.o.d a e).2));have VZ:Hid (∀j u,([V d,V f]:List Value)[j]? = M u->((s.alloc (K #[V d,V f] 128)).alloc (K #[V d,V f] 128)).drew.cell? (Addr.add ⟨s.heap.size+1,0,U⟩ j)=M u):=fun j u hu=>by
  rw[ga,dV];show((s.alloc (K #[V d,V f] 128)).alloc (K #[V d,V f] 128)).cell? _=_;rw[World.cell?_alloc_at _ _ _ _ (by simp),mS];exact hu
 have HS:=aa hB.size;clear hB i q H c1 c3;go_wp2;go_region_law
  ((refine step_append_lies _ (by rfl) _ _ _ (by rfl) 0 128 i0 (.agg #[V ⟨#[]⟩,V ⟨#[]⟩]) 2 32 underlying80 Hi.o kT.o kL.o kU.o (by rfl) (by decide) (Z v n N) n _ (by rfl) XP.o ⟨s.heap.size+1,0,U⟩ 1 1 [V d,V f] (by rfl) (by rfl) VZ.o (fun u hu=>by simp at hu;rcases hu with rfl | rfl <;> rfl) (by decide) HN.o.1 HN.o.2 (ax _) (s.heap.size+2) (by simp) ?_;intro g3 iq w3 l b kr hlt3;have Av:=aa b;have sG:=aa l;have Lc:=aa kr;have q1:=(D.o _ _ r.o b).1;have q3:=(D.o _ _ r.o b).2.1;have qf:=(D.o _ _ r.o b).2.2;clear b l kr))
 all_goals (go_wp2;go_ret;refine⟨rfl,?_⟩;exact R5 G.o.1 G.o.2.1 G.o.2.2.1 G.o.2.2.2.1 G.o.2.2.2.2.1 G.o.2.2.2.2.2.1 G.o.2.2.2.2.2.2 r.o Av.o sG.o (Lc.o.imp (fun e=>e) (fun e=>by have:=HS.o;omega)))
