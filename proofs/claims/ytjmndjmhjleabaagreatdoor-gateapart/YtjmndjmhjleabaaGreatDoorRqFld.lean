/- Package request, walked: a head's field. -/
import Derived.Test.YtjmndjmhjleabaaGreatDoorRqA
import Derived.Deep.AppendLies
open Go.Value renaming string->V,slice->Z,pointer->Q
open Go.Obj renaming cells->K
open Option renaming none->U,some->M
open Bool renaming false->F
set_option maxHeartbeats 4000000
set_option maxRecDepth 100000
open Go.Proofs.Tryz
namespace Go.Proofs.YtjmndjmhjleabaaGreatDoor
open Go.RowKit
theorem Pq (w:World)(g a:Nat)(f bd:Value)(S:Nat->Prop)(h:Rq.Hd)(t:av)(b:jf w g f (Q (M ⟨a,0,U⟩)) F bd 0)(i:jF w S a h)(c:h.fields.length=16):
 Calls prog 142 #[Q (M ⟨g,0,U⟩),V t] w fun e w'=>e=.returned (.int .i64 8)∧w'=w:=by
 obtain⟨j,k,d,l,m,n⟩:=i;have o:=b.c1;have p:w.cell? ⟨a,3,U⟩=M (Z j 16 k):=by rw[fJ w a 3 _ _ _ d];simp[c]
 clear b d l c;go_enter func142,ntmps142;go_wp2;go_ret;exact⟨rfl,rfl⟩
theorem Ug (w:World)(g a:Nat)(j bd:Value)(S:Nat->Prop)(h:Rq.Hd)(t:av)(b:jf w g j (Q (M ⟨a,0,U⟩)) F bd 0)(k:jF w S a h)(l:h.fields.length≠16)(m:t.size<=2000)(n:(Fd.of t.data.toList).code≠0):
 Calls prog 142 #[Q (M ⟨g,0,U⟩),V t] w fun e w'=>e=.returned (.int .i64 ((Fd.of t.data.toList).code:Int))∧Below w.heap.size w w':=by
 obtain⟨p,q,c,r,u,v⟩:=k;have x:=b.c1;have y:w.cell? ⟨a,3,U⟩=M (Z p h.fields.length q):=fJ w a 3 _ _ _ c;have s:((h.fields.length:Int)==16)=F:=aR.2 (by omega);have d:=H9 (xI t w m);unfold Fd.val at d;have z:(((Fd.of t.data.toList).code:Int)==0)=F:=aR.2 (by omega);generalize (Fd.of t.data.toList).code=B at *;generalize (⟨(Fd.of t.data.toList).name.toArray⟩:av)=C at *;generalize (⟨(Fd.of t.data.toList).value.toArray⟩:av)=D at *;generalize h.fields.length=G at *;clear b c r l n;go_enter func142,ntmps142;go_wp2_with fail
 refine d.o.mono ?_;rintro e H ⟨rfl,f⟩;have i:=H9 f;clear f;go_wp2;go_ret;refine⟨rfl,?_⟩;exact i.o.trans ((fI _ _).alloc i.o.size _)
theorem Uh {w W f:World}{S:Nat->Prop}{g b n gL c j:Nat}{t bd:Value}{fo:aj}{h:Rq.Hd}{l m:av}
 (z:jf w g t (Q (M ⟨b,0,U⟩)) F bd 0) (u:¬S g)
 (p:w.heap[b]? = M (K #[V ⟨h.method.toArray⟩,V ⟨h.target.toArray⟩,.int .i64 (h.minor:Int),Z fo n gL,.int .i64 h.length] 68 (0,0)))
 (B:gU w 0 111 2 fo gL n (gT (Rq.nu h.fields))) (v:h.fields.length=n) (q:S b) (C:∀a,fo=M a->S a.block)
 (D:Below w.heap.size w W) (x:W.grownBy f (Value.slice fo n gL).ownBlock)
 (G:f.ownsRow 0 111 2 (Z (M ⟨c,0,U⟩) (n+1) j) (n+1) (gT (Rq.nu h.fields)++[V l,V m]))
 (d:(Value.slice fo n gL).ownBlock=M c∨w.heap.size<=c) :
 jf (f.setCell ⟨b,3,U⟩ (Z (M ⟨c,0,U⟩) (n+1) j)) g t (Q (M ⟨b,0,U⟩)) F bd 0 ∧
 jF (f.setCell ⟨b,3,U⟩ (Z (M ⟨c,0,U⟩) (n+1) j)) (gM S w) b { h with fields:=h.fields++[(l.data.toList,m.data.toList)] } ∧
 Turns S w (f.setCell ⟨b,3,U⟩ (Z (M ⟨c,0,U⟩) (n+1) j)):=by
 rw[gN] at x d;have o:Turns (fun k=>gK fo=M k) w f:=(Turns.of_below (S:=fun k=>gK fo=M k) D).trans (Turns.iY x (fun k e=>e)) (fun _ e _=>e);have i:∀k,gK fo=M k->S k∧k≠b:=fun k e=>by
  cases fo with
  | none=>cases e
  | some a=>injection e with e;subst e;exact⟨C a rfl,AU p B a rfl⟩
 have H:b≠g:=fun e=>u (e▸q);have r:=o.row p (fun e=>(i b e).2 rfl);have y:Turns S w (f.setCell ⟨b,3,U⟩ (Z (M ⟨c,0,U⟩) (n+1) j)):=(o.mono (fun k e=>(i k e).1)).trans (Turns.setCell S _ _ _ q) (fun _ e _=>e);have s:b≠c:=fun e=>by
  subst e;rcases d with d | d
  . exact(i _ d).2 rfl
  . have:=(aK.1 p).1;omega
 refine⟨z.turns y u,⟨M ⟨c,0,U⟩,j,?_,?_,Or.inl q,fun a e=>?_⟩,y⟩
 . rw[fM _ _ 3 _ _ _ r];simp[v]
 . have L:gT (Rq.nu (h.fields++[(l.data.toList,m.data.toList)]))=gT (Rq.nu h.fields)++[V l,V m]:=by
    rw[Rq.yO,qA];rfl
   show gU _ _ _ _ _ _ (h.fields++[(l.data.toList,m.data.toList)]).length (gT (Rq.nu (h.fields++[(l.data.toList,m.data.toList)])));rw[L,aV,v];have N:gU f 0 111 2 (M ⟨c,0,U⟩) j (n+1) (gT (Rq.nu h.fields)++[V l,V m]):=G;exact N.turns (Turns.setCell (fun k=>k=b) f _ _ rfl) (fun a e O=>by injection e with e;subst e;exact s O.symm)
 . injection e with e;subst e;rcases d with d | d
   . exact Or.inl (i _ d).1
   . exact Or.inr d
theorem XO (w:World)(g c:Nat)(lp bd:Value)(S:Nat->Prop)(h:Rq.Hd)(t:av)(hP:jf w g lp (Q (M ⟨c,0,U⟩)) F bd 0)(hH:jF w S c h)(hg:¬S g)(hn:h.fields.length<16)(ht:t.size<=2000)(hc:(Fd.of t.data.toList).code=0):
 Calls prog 142 #[Q (M ⟨g,0,U⟩),V t] w fun e w'=>e=.returned (.int .i64 0)∧jf w' g lp (Q (M ⟨c,0,U⟩)) F bd 0∧jF w' (gM S w) c { h with fields:=h.fields++[((Fd.of t.data.toList).name,(Fd.of t.data.toList).value)] }∧Turns S w w':=by
 obtain⟨s,H,m,L,h1,h2⟩:=hH;have c1:=hP.c1;have Mj:=H9 (xI t w ht);unfold Fd.val at Mj;rw[hc] at Mj;obtain⟨d,v⟩:∃d:av,(⟨(Fd.of t.data.toList).name.toArray⟩:av)=d:=⟨_,rfl⟩;obtain⟨f,x⟩:∃f:av,(⟨(Fd.of t.data.toList).value.toArray⟩:av)=f:=⟨_,rfl⟩;have e1:(Fd.of t.data.toList).name=d.data.toList:=by rw[<-v]
 have e2:(Fd.of t.data.toList).value=f.data.toList:=by rw[<-x]
 rw[v,x] at Mj;rw[e1,e2];obtain⟨n,y⟩:∃n,h.fields.length=n:=⟨_,rfl⟩;rw[y] at m L hn;have hlt:n*2<=32:=by omega
 have c3:w.cell? ⟨c,3,U⟩=M (Z s n H):=fJ w c 3 _ _ _ m;have t16:((n:Int)==16)=F:=aR.2 (by omega);have hgh:c≠g:=fun e=>hg (e▸h1);have hK:∀W,Below w.heap.size w W->W.cell? ⟨g,1,U⟩=M (Q (M ⟨c,0,U⟩))∧W.cell? ⟨c,3,U⟩=M (Z s n H):=fun W z =>
  ⟨(z.cell (fZ w _ c1)).trans c1,(z.cell (fZ w _ c3)).trans c3⟩
 have N:∀W G,Below w.heap.size w W->W.grownBy G (Value.slice s n H).ownBlock->G.cell? ⟨g,1,U⟩=M (Q (M ⟨c,0,U⟩))∧G.cell? ⟨c,3,U⟩=M (Z s n H)∧G.frozen? ⟨c,3,U⟩=F:=fun W G z hG=>by
  rw[gN] at hG;have B:∀k,(k=g∨k=c)->M k≠gK s:=fun k hk e=>by
   cases s with
   | none=>cases e
   | some a =>
     injection e with e;rcases hk with rfl | rfl
     . exact hg (e▸h2 a rfl)
     . exact AU m L a rfl e.symm
  have hr3:G.heap[c]? = _:=(hG.block c (aK.1 ((z.block c (aK.1 m).1).trans m)).1 (B c (Or.inr rfl))).trans ((z.block c (aK.1 m).1).trans m);exact⟨hG.cell (hK W z).1 (B g (Or.inl rfl)),hG.cell (hK W z).2 (B c (Or.inr rfl)),fK _ _ _ _ _ hr3⟩
 have HK:=H9 hK;have Yq:=H9 N
 have HO:=H9 L;have C:=H9 (And.intro hP (And.intro hg (And.intro m (And.intro L (And.intro y (And.intro h1 h2))))));obtain⟨i0,O,P,T,hz2⟩:=info_parts rT;have Hi:=H9 O;have kJ:=H9 P;have kG:=H9 T;have kK:=H9 hz2
 have HN:Hid (n+1<=maxLen∧(n+1)*32<=140737488355328):=⟨by unfold maxLen;omega,by omega⟩;clear O P T hz2 hP m L hK N hg h1 h2 hc v x e1 e2 y;go_enter func142,ntmps142;go_wp2_with fail
 refine Mj.o.mono ?_;rintro e r ⟨rfl,hB⟩;have i:Below w.heap.size w (r.alloc (K #[V d,V f] 111)):=hB.trans ((fI _ _).alloc hB.size _);have p:Below w.heap.size w ((r.alloc (K #[V d,V f] 111)).alloc (K #[V d,V f] 111)):=i.trans ((fI _ _).alloc i.size _);have D:Below w.heap.size w ((r.alloc (K #[V d,V f] 111)).alloc (K #[V d,V f] 111)).drew:=p.trans ⟨rfl,rfl,rfl,aL _,fun _ _=>rfl⟩;have k1:=(HK.o _ i).1;have k3:=(HK.o _ i).2;have j1:=(HK.o _ p).1;have j3:=(HK.o _ p).2;have q:=H9 D;have HOw:=H9 (gU.below HO.o D (fun a e=>(HO.o.block a e).2));have UU:Hid (∀j u,([V d,V f]:List Value)[j]? = M u->((r.alloc (K #[V d,V f] 111)).alloc (K #[V d,V f] 111)).drew.cell? (Addr.add ⟨r.heap.size+1,0,U⟩ j)=M u):=fun j u hu=>by
  rw[gH,aZ];show((r.alloc (K #[V d,V f] 111)).alloc (K #[V d,V f] 111)).cell? _=_;rw[World.cell?_alloc_at _ _ _ _ (by simp),dG];exact hu
 have HS:=H9 hB.size;clear hB i p D c1 c3;go_wp2;go_region_law
  ((refine step_append_lies _ (by rfl) _ _ _ (by rfl) 0 111 i0 (.agg #[V ⟨#[]⟩,V ⟨#[]⟩]) 2 32 underlying66 Hi.o kJ.o kG.o kK.o (by rfl) (by decide) (Z s n H) n _ (by rfl) HOw.o ⟨r.heap.size+1,0,U⟩ 1 1 [V d,V f] (by rfl) (by rfl) UU.o (fun u hu=>by simp at hu;rcases hu with rfl | rfl <;> rfl) (by decide) HN.o.1 HN.o.2 (ay _) (r.heap.size+2) (by simp) ?_;intro g3 gW w3 l b ku hlt3;have sF:=H9 b;have oC:=H9 l;have Jg:=H9 ku;have q1:=(Yq.o _ _ q.o b).1;have q3:=(Yq.o _ _ q.o b).2.1;have qf:=(Yq.o _ _ q.o b).2.2;clear b l ku))
 all_goals (go_wp2;go_ret;refine⟨rfl,?_⟩;exact Uh C.o.1 C.o.2.1 C.o.2.2.1 C.o.2.2.2.1 C.o.2.2.2.2.1 C.o.2.2.2.2.2.1 C.o.2.2.2.2.2.2 q.o sF.o oC.o (Jg.o.imp (fun e=>e) (fun e=>by have:=HS.o;omega)))
end Go.Proofs.YtjmndjmhjleabaaGreatDoor