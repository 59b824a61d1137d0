import Derived.Test.YtodmelffkfbalaaGreatDoorRqA
import Derived.Deep.AppendLies
open Go.Value renaming string->V,slice->Z,pointer->Q
open Go.Obj renaming cells->K
open Option renaming none->U,some->M
open Bool renaming false->F
set_option maxHeartbeats 4000000
set_option maxRecDepth 100000
open Go.Proofs.Tryz
namespace Go.Proofs.YtodmelffkfbalaaGreatDoor
open Go.RowKit
theorem On (w:World)(g a:Nat)(b bd:Value)(S:Nat->Prop)(h:dg)(t:ae)(c:ct w g b (Q (M ⟨a,0,U⟩)) F bd 0)(d:fV w S a h)(f:h.a.length=16):
 Calls prog 224 #[Q (M ⟨g,0,U⟩),V t] w fun e w'=>e=.returned (.int .i64 8)∧w'=w:=by
 obtain⟨i,j,k,l,m,n⟩:=d;have o:=c.r;have p:w.cell? ⟨a,3,U⟩=M (Z i 16 j):=by rw[aq w a 3 _ _ _ k];simp[f]
 go_enter func224,ntmps224;go_wp2;go_ret;exact⟨rfl,rfl⟩
theorem Rk (w:World)(g a:Nat)(d bd:Value)(S:Nat->Prop)(h:dg)(t:ae)(f:ct w g d (Q (M ⟨a,0,U⟩)) F bd 0)(i:fV w S a h)(m:h.a.length≠16)(j:t.size<=2000)(n:(aY t.data.toList).a≠0):
 Calls prog 224 #[Q (M ⟨g,0,U⟩),V t] w fun e w'=>e=.returned (.int .i64 ((aY t.data.toList).a:Int))∧Below w.heap.size w w':=by
 obtain⟨o,p,k,q,r,s⟩:=i;have u:=f.r;have v:=aq w a 3 _ _ _ k;have l:((h.a.length:Int)==16)=F:=aQ.2 (by omega);have b:=yq t w j;unfold tV at b;have x:(((aY t.data.toList).a:Int)==0)=F:=aQ.2 (by omega);generalize (aY t.data.toList).a=y at *;generalize (⟨(aY t.data.toList).b.toArray⟩:ae)=z at *;generalize (⟨(aY t.data.toList).c.toArray⟩:ae)=B at *;generalize h.a.length=C at *;go_enter func224,ntmps224;go_wp2_with fail;refine b.mono ?_;rintro e D ⟨rfl,c⟩;go_wp2;go_ret;refine⟨rfl,?_⟩;exact c.trans ((ar _ _).alloc c.size _)
theorem Rl {w W f:World}{S:Nat->Prop}{g b n gy c j:Nat}{t bd:Value}{fo:ag}{h:dg}{l m:ae}
 (z:ct w g t (Q (M ⟨b,0,U⟩)) F bd 0) (u:¬S g)
 (p:w.heap[b]? = M (K #[V ⟨h.e.toArray⟩,V ⟨h.b.toArray⟩,.int .i64 (h.d:Int),Z fo n gy,.int .i64 h.c] 82 (0,0)))
 (B:aK w 0 148 2 fo gy n (aI (co h.a))) (v:h.a.length=n) (q:S b) (C:∀a,fo=M a->S a.block)
 (D:Below w.heap.size w W) (x:W.grownBy f (Value.slice fo n gy).ownBlock)
 (G:f.ownsRow 0 148 2 (Z (M ⟨c,0,U⟩) (n+1) j) (n+1) (aI (co h.a)++[V l,V m]))
 (d:(Value.slice fo n gy).ownBlock=M c∨w.heap.size<=c) :
 ct (f.setCell ⟨b,3,U⟩ (Z (M ⟨c,0,U⟩) (n+1) j)) g t (Q (M ⟨b,0,U⟩)) F bd 0 ∧
 fV (f.setCell ⟨b,3,U⟩ (Z (M ⟨c,0,U⟩) (n+1) j)) (ay S w) b { h with a:=h.a++[(l.data.toList,m.data.toList)] } ∧
 am S w (f.setCell ⟨b,3,U⟩ (Z (M ⟨c,0,U⟩) (n+1) j)):=by
 rw[dq] at x d;have o:am (fun k=>aw fo=M k) w f:=(am.f (S:=fun k=>aw fo=M k) D).a (am.G x (fun k e=>e)) (fun _ e _=>e);have i:∀k,aw fo=M k->S k∧k≠b:=fun k e=>by
  cases fo with
  | none=>cases e
  | some a=>injection e with e;subst e;exact⟨C a rfl,yC p B a rfl⟩
 have H:b≠g:=fun e=>u (e▸q);have r:=o.y p (fun e=>(i b e).2 rfl);have y:am S w (f.setCell ⟨b,3,U⟩ (Z (M ⟨c,0,U⟩) (n+1) j)):=(o.j (fun k e=>(i k e).1)).a (am.r S _ _ _ q) (fun _ e _=>e);have s:b≠c:=fun e=>by
  subst e;rcases d with d | d
  . exact(i _ d).2 rfl
  . have:=(bO.1 p).1;omega
 refine⟨z.f y u,⟨M ⟨c,0,U⟩,j,?_,?_,Or.inl q,fun a e=>?_⟩,y⟩
 . rw[aP _ _ 3 _ _ _ r];simp[v]
 . have L:aI (co (h.a++[(l.data.toList,m.data.toList)]))=aI (co h.a)++[V l,V m]:=by
    rw[FX,yg];rfl
   show aK _ _ _ _ _ _ (h.a++[(l.data.toList,m.data.toList)]).length (aI (co (h.a++[(l.data.toList,m.data.toList)])));rw[L,aD,v];have N:aK f 0 148 2 (M ⟨c,0,U⟩) j (n+1) (aI (co h.a)++[V l,V m]):=G;exact N.j (am.r (fun k=>k=b) f _ _ rfl) (fun a e T=>by injection e with e;subst e;exact s T.symm)
 . injection e with e;subst e;rcases d with d | d
   . exact Or.inl (i _ d).1
   . exact Or.inr d
theorem R9 (w:World)(g c:Nat)(lp bd:Value)(S:Nat->Prop)(h:dg)(t:ae)(hP:ct w g lp (Q (M ⟨c,0,U⟩)) F bd 0)(hH:fV w S c h)(hg:¬S g)(hn:h.a.length<16)(ht:t.size<=2000)(hc:(aY t.data.toList).a=0):
 Calls prog 224 #[Q (M ⟨g,0,U⟩),V t] w fun e w'=>e=.returned (.int .i64 0)∧ct w' g lp (Q (M ⟨c,0,U⟩)) F bd 0∧fV w' (ay S w) c { h with a:=h.a++[((aY t.data.toList).b,(aY t.data.toList).c)] }∧am S w w':=by
 obtain⟨s,H,m,L,h1,h2⟩:=hH;have c1:=hP.r;have ZT:=aa (yq t w ht);unfold tV at ZT;rw[hc] at ZT;obtain⟨d,v⟩:∃d:ae,(⟨(aY t.data.toList).b.toArray⟩:ae)=d:=⟨_,rfl⟩;obtain⟨f,x⟩:∃f:ae,(⟨(aY t.data.toList).c.toArray⟩:ae)=f:=⟨_,rfl⟩;have e1:(aY t.data.toList).b=d.data.toList:=by rw[<-v]
 have e2:(aY t.data.toList).c=f.data.toList:=by rw[<-x]
 rw[v,x] at ZT;rw[e1,e2];obtain⟨n,y⟩:∃n,h.a.length=n:=⟨_,rfl⟩;rw[y] at m L hn;have hlt:n*2<=32:=by omega
 have c3:w.cell? ⟨c,3,U⟩=M (Z s n H):=aq w c 3 _ _ _ m;have t16:((n:Int)==16)=F:=aQ.2 (by omega);have hgh:c≠g:=fun e=>hg (e▸h1);have hK:∀W,Below w.heap.size w W->W.cell? ⟨g,1,U⟩=M (Q (M ⟨c,0,U⟩))∧W.cell? ⟨c,3,U⟩=M (Z s n H):=fun W z =>
  ⟨(z.cell (bY w _ c1)).trans c1,(z.cell (bY w _ c3)).trans c3⟩
 have N:∀W G,Below w.heap.size w W->W.grownBy G (Value.slice s n H).ownBlock->G.cell? ⟨g,1,U⟩=M (Q (M ⟨c,0,U⟩))∧G.cell? ⟨c,3,U⟩=M (Z s n H)∧G.frozen? ⟨c,3,U⟩=F:=fun W G z hG=>by
  rw[dq] at hG;have B:∀k,(k=g∨k=c)->M k≠aw s:=fun k hk e=>by
   cases s with
   | none=>cases e
   | some a =>
     injection e with e;rcases hk with rfl | rfl
     . exact hg (e▸h2 a rfl)
     . exact yC m L a rfl e.symm
  have hr3:G.heap[c]? = _:=(hG.block c (bO.1 ((z.block c (bO.1 m).1).trans m)).1 (B c (Or.inr rfl))).trans ((z.block c (bO.1 m).1).trans m);exact⟨hG.cell (hK W z).1 (B g (Or.inl rfl)),hG.cell (hK W z).2 (B c (Or.inr rfl)),aN _ _ _ _ _ hr3⟩
 have HK:=aa hK;have X4:=aa N
 have HO:=aa L;have C:=aa (And.intro hP (And.intro hg (And.intro m (And.intro L (And.intro y (And.intro h1 h2))))));obtain⟨i0,T,hz0,hz1,hz2⟩:=info_parts pS;have Hi:=aa T;have lg:=aa hz0;have kZ:=aa hz1;have lq:=aa hz2
 have HN:Hid (n+1<=maxLen∧(n+1)*32<=140737488355328):=⟨by unfold maxLen;omega,by omega⟩;clear T hz0 hz1 hz2 hP m L hK N hg h1 h2 hc v x e1 e2 y;go_enter func224,ntmps224;go_wp2_with fail;refine ZT.o.mono ?_;rintro e r ⟨rfl,hB⟩;have i:Below w.heap.size w (r.alloc (K #[V d,V f] 148)):=hB.trans ((ar _ _).alloc hB.size _);have p:Below w.heap.size w ((r.alloc (K #[V d,V f] 148)).alloc (K #[V d,V f] 148)):=i.trans ((ar _ _).alloc i.size _);have D:Below w.heap.size w ((r.alloc (K #[V d,V f] 148)).alloc (K #[V d,V f] 148)).drew:=p.trans ⟨rfl,rfl,rfl,ak _,fun _ _=>rfl⟩;have k1:=(HK.o _ i).1;have k3:=(HK.o _ i).2;have j1:=(HK.o _ p).1;have j3:=(HK.o _ p).2;have q:=aa D;have V7:=aa (aK.below HO.o D (fun a e=>(HO.o.f a e).2));have Yi:Hid (∀j u,([V d,V f]:List Value)[j]? = M u->((r.alloc (K #[V d,V f] 148)).alloc (K #[V d,V f] 148)).drew.cell? (Addr.add ⟨r.heap.size+1,0,U⟩ j)=M u):=fun j u hu=>by
  rw[ge,ee];show((r.alloc (K #[V d,V f] 148)).alloc (K #[V d,V f] 148)).cell? _=_;rw[World.cell?_alloc_at _ _ _ _ (by simp),mD];exact hu
 have HS:=aa hB.size;clear hB i p D c1 c3;go_wp2;go_region_law
  ((refine step_append_lies _ (by rfl) _ _ _ (by rfl) 0 148 i0 (.agg #[V ⟨#[]⟩,V ⟨#[]⟩]) 2 32 underlying80 Hi.o lg.o kZ.o lq.o (by rfl) (by decide) (Z s n H) n _ (by rfl) V7.o ⟨r.heap.size+1,0,U⟩ 1 1 [V d,V f] (by rfl) (by rfl) Yi.o (fun u hu=>by simp at hu;rcases hu with rfl | rfl <;> rfl) (by decide) HN.o.1 HN.o.2 (ax _) (r.heap.size+2) (by simp) ?_;intro g3 iy w3 l b jS hlt3;have yE:=aa b;have sP:=aa l;have Km:=aa jS;have q1:=(X4.o _ _ q.o b).1;have q3:=(X4.o _ _ q.o b).2.1;have qf:=(X4.o _ _ q.o b).2.2;clear b l jS))
 all_goals (go_wp2;go_ret;refine⟨rfl,?_⟩;exact Rl C.o.1 C.o.2.1 C.o.2.2.1 C.o.2.2.2.1 C.o.2.2.2.2.1 C.o.2.2.2.2.2.1 C.o.2.2.2.2.2.2 q.o yE.o sP.o (Km.o.imp (fun e=>e) (fun e=>by have:=HS.o;omega)))
