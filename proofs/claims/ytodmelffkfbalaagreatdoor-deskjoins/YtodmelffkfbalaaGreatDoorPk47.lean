import Derived.Test.YtodmelffkfbalaaGreatDoorFbPow
import Derived.Test.YtodmelffkfbalaaGreatDoorPk45
open Go.Value renaming int->I,string->V,slice->Z,pointer->Q
open Go.IntKind renaming i64->J
open Go.Obj renaming cells->K
open Go.Ending renaming returned->Y
open Option renaming none->U,some->M
open Bool renaming false->F
open Or renaming inl->A,inr->R
open Go renaming World->X
set_option maxHeartbeats 8000000
set_option maxRecDepth 100000
open Go.Proofs.Tryz
namespace Go.Proofs.YtodmelffkfbalaaGreatDoor
open Go.RowKit
theorem Et (a v:ae)(x:Int)(w:X)(l:∀W,Below w.heap.size w W->Calls prog 141 #[I J x] W fun e w'=>e=Y (V v)∧Below W.heap.size W w'):
 Calls prog 205 #[V a,I J x] w fun e w'=>e=Y (.agg #[V a,V v])∧Below w.heap.size w w':=by
 have i:=(ar _ w).alloc (ak _) (K #[V ⟨#[]⟩,V ⟨#[]⟩] 148);go_enter func205,ntmps205;go_wp2_with fail;refine(l _ i).mono ?_;rintro e m ⟨rfl,f⟩;go_wp2_with fail;refine(ny a v m).mono ?_;rintro e b ⟨rfl,g⟩;have c:=au f g;have d:=(c.block w.heap.size (by simp)).trans (aX w _);have r:=aq b _ 0 _ _ _ d;have s:=aq b _ 1 _ _ _ d;have t:=aN b _ 0 _ _ d;have u:=aN b _ 1 _ _ d;have n:=((au i c).setCell (p:=⟨w.heap.size,0,U⟩) (ak _) (V a)).setCell (p:=⟨w.heap.size,1,U⟩) (ak _) (V v);have j:=aP _ _ 1 _ _ (V v) (aP _ _ 0 _ _ (V a) d);go_wp2;generalize ((b.setCell ⟨w.heap.size,0,U⟩ (V a)).setCell ⟨w.heap.size,1,U⟩ (V v))=k at *;have o:=aq k _ 0 _ _ _ j;have q:=aq k _ 1 _ _ _ j;exact aR (v:=.agg #[V a,V v]) (by simp[results,results205,go_sem,o,q]) rfl ⟨rfl,n⟩
theorem tf (a:ae)(n:Nat)(x:Int)(b:(n:Int)=x)(c:n<1000000000)(w:X)(d:dj w):Calls prog 205 #[V a,I J x] w fun e w'=>e=Y (.agg #[V a,V (eL n)])∧Below w.heap.size w w':=by
 subst b;exact Et a (eL n) n w (fun W f=>mE n c W (d.a f))
theorem Ch (c:Nat)(w:X):
 Calls prog 266 #[I J (c:Int)] w fun e w'=>e=Y (I J (pF c:Nat))∧w'=w:=by
 by_cases a:c=10
 . subst a;go_enter func266,ntmps266;go_wp2;go_ret;exact⟨rfl,rfl⟩
 by_cases b:c=17
 . subst b;go_enter func266,ntmps266;go_wp2;go_ret;exact⟨rfl,rfl⟩
 by_cases d:c=19
 . subst d;go_enter func266,ntmps266;go_wp2;go_ret;exact⟨rfl,rfl⟩
 by_cases g:c=4
 . subst g;go_enter func266,ntmps266;go_wp2;go_ret;exact⟨rfl,rfl⟩
 by_cases i:c=8
 . subst i;go_enter func266,ntmps266;go_wp2;go_ret;exact⟨rfl,rfl⟩
 by_cases f:c=16
 . subst f;go_enter func266,ntmps266;go_wp2;go_ret;exact⟨rfl,rfl⟩
 have j:Hid (pF c=400):=by
  unfold Hid pF;rw[if_neg a,if_neg (by omega),if_neg g,if_neg (by omega)]
 have k:((c:Int)==10)=F:=by rw[aQ];omega
 have l:((c:Int)==17)=F:=by rw[aQ];omega
 have m:((c:Int)==19)=F:=by rw[aQ];omega
 have p:((c:Int)==4)=F:=by rw[aQ];omega
 have q:((c:Int)==8)=F:=by rw[aQ];omega
 have n:((c:Int)==16)=F:=by rw[aQ];omega
 go_enter func266,ntmps266;go_wp2;go_ret;exact⟨by rw[j.o];rfl,rfl⟩
theorem yd (w:X):Calls prog 209 #[I J 0] w fun e w'=>e=Y (.tuple #[])∧w'=w:=by
 have b:=aa (Ch 0 w);go_enter func209,ntmps209;go_wp2_with fail;refine b.o.mono ?_;rintro e c ⟨rfl,a⟩;rw[a];clear a;go_wp2_with fail;refine(fT _ U 0 0 w).mono ?_;rintro e d ⟨rfl,a⟩;rw[a];clear a;go_wp2;go_end0
 exact⟨rfl,rfl⟩
theorem yj (c:Nat)(i:c≠0)(w:X):Calls prog 209 #[I J (c:Int)] w fun e w'=>gM w (bT (pF c) []) e w':=by
 have j:((c:Int)==0)=F:=by rw[aQ];omega
 go_enter func209,ntmps209;go_wp2_with fail;refine(Ch c w).mono ?_;rintro e k ⟨rfl,d⟩;rw[d];go_wp2_with fail;refine(iA (pF c) (pF c:Nat) rfl w).mono ?_;rintro e l a;have f:=aa a;obtain⟨m,g,n,b,_,_,_⟩:=a;unfold bV at b;subst b;go_wp2;exact⟨rfl,f.o⟩
structure fW (w:X)(l:aC)(fo:ag)(gy nf:Nat):Prop where
 d:bq w fo gy nf (aI l)
 e:l.length=nf
 c:nf<=1000
 b:∀p∈l,p.1.size<=2000∧p.2.size<=2000
theorem fW.a {w w':X}{l:aC}{fo:ag}{gy nf:Nat}(h:fW w l fo gy nf)(a:Below w.heap.size w w'):fW w' l fo gy nf:=⟨h.d.a a,h.e,h.c,h.b⟩
section
variable {g:Nat} {m t:ae} {mi ln:Int} {l:aC} {fo:ag} {gy nf:Nat} {bo:ag} {fZ nb:Nat} {w:X}
theorem rk (a:ae)(n:a.size<=2000)(h:fW w l fo gy nf){v:ab}{c:Nat}(p:aZ (aO a l)=(v,c))(x:c≠9):
 Calls prog 151 #[.agg #[Q (M ⟨g,0,U⟩),V m,V t,I J mi,Z fo nf gy,I J ln,Z bo nb fZ],V a] w fun e w'=>e=Y (.tuple #[V ⟨v.toArray⟩,.bool (decide (c=0))])∧Below w.heap.size w w':=by
 have j:=(ar _ w).alloc (ak _) (K #[Q (M ⟨g,0,U⟩),V m,V t,I J mi,Z fo nf gy,I J ln,Z bo nb fZ] 185);have d:=vO l a fo gy nf _ (h.a j).d h.e (by have:=h.c;omega) h.b n;rw[GW,GV,p] at d;unfold lU at d;have y:((c:Int) != 9)=true:=by rw[di];omega
 have z:(w.alloc (K #[Q (M ⟨g,0,U⟩),V m,V t,I J mi,Z fo nf gy,I J ln,Z bo nb fZ] 185)).cell? ⟨w.heap.size,4,U⟩=M (Z fo nf gy):=World.cell?_alloc_mark w _ _ _ 4;generalize (⟨v.toArray⟩:ae)=B at *;have q:Hid (∃b:Bool,((c:Int)==0)=b∧decide (c=0)=b):=by
  by_cases k:c=0
  . subst k;exact⟨true,rfl,rfl⟩
  . exact⟨F,by rw[aQ];omega,ba k⟩
 obtain⟨b,C,r⟩:=q.o;rw[r];go_enter func151,ntmps151;go_wp2_with fail;refine d.mono ?_;rintro e s ⟨rfl,f⟩;have i:=au j f;go_wp2_with fail;refine(fT 400 U 0 0 s).mono ?_;rintro e D ⟨rfl,u⟩;rw[u];go_wp2;go_ret2;exact⟨rfl,i⟩
theorem BM (a:ae)(b:a.size<=2000)(h:fW w l fo gy nf){v:ab}(c:aZ (aO a l)=(v,0)):
 Calls prog 151 #[.agg #[Q (M ⟨g,0,U⟩),V m,V t,I J mi,Z fo nf gy,I J ln,Z bo nb fZ],V a] w fun e w'=>e=Y (.tuple #[V ⟨v.toArray⟩,.bool true])∧Below w.heap.size w w':=rk a b h c (by decide)
theorem Eu (a:ae)(b:a.size<=2000)(h:fW w l fo gy nf){v:ab}(c:aZ (aO a l)=(v,10)):
 Calls prog 151 #[.agg #[Q (M ⟨g,0,U⟩),V m,V t,I J mi,Z fo nf gy,I J ln,Z bo nb fZ],V a] w fun e w'=>e=Y (.tuple #[V ⟨v.toArray⟩,.bool F])∧Below w.heap.size w w':=rk a b h c (by decide)
theorem rp (a:ae)(k:a.size<=2000)(h:fW w l fo gy nf){v:ab}(o:aZ (aO a l)=(v,9)):
 Calls prog 151 #[.agg #[Q (M ⟨g,0,U⟩),V m,V t,I J mi,Z fo nf gy,I J ln,Z bo nb fZ],V a] w fun e w'=>gM w (bT 400 []) e w':=by
 have f:=(ar _ w).alloc (ak _) (K #[Q (M ⟨g,0,U⟩),V m,V t,I J mi,Z fo nf gy,I J ln,Z bo nb fZ] 185);have b:=vO l a fo gy nf _ (h.a f).d h.e (by have:=h.c;omega) h.b k;rw[GW,GV,o] at b;unfold lU at b;have s:(w.alloc (K #[Q (M ⟨g,0,U⟩),V m,V t,I J mi,Z fo nf gy,I J ln,Z bo nb fZ] 185)).cell? ⟨w.heap.size,4,U⟩=M (Z fo nf gy):=World.cell?_alloc_mark w _ _ _ 4;generalize (⟨v.toArray⟩:ae)=u at *;go_enter func151,ntmps151;go_wp2_with fail;refine b.mono ?_;rintro e p ⟨rfl,c⟩;have d:=au f c;go_wp2_with fail;refine(iA 400 400 rfl p).mono ?_;rintro e x i;have q:=i.f d;obtain⟨y,r,n,j,_,_,_⟩:=i;unfold bV at j;subst j;go_wp2;exact⟨rfl,q⟩
end
theorem GS (a:List ae):(aZ a).2=0∨(aZ a).2=9∨(aZ a).2=10:=by
 unfold aZ;split
 . exact R (R rfl)
 . exact A rfl
 . exact R (A rfl)
theorem sm {a b:ae}(h:be a.data.toList=be b.data.toList)(l:aC):aO a l=aO b l:=by unfold aO;rw[h]
theorem ss (l:aC):aO fx l=aO oN l:=sm (by decide +kernel) l
theorem uZ (l:aC):aO gB l=aO gc l:=sm (by decide +kernel) l
theorem PX (l:aC):aO gC l=aO nh l:=sm (by decide +kernel) l
theorem GT (l:aC):aO ir l=aO qR l:=sm (by decide +kernel) l
theorem PY (l:aC):aO dp l=aO xI l:=sm (by decide +kernel) l
def sj:ae:=⟨#[67,111,110,116,101,110,116,45,84,121,112,101]⟩
theorem Bk (l:aC):aO sj l=aO jI l:=sm (by decide +kernel) l
section
variable {g:Nat} {m t:ae} {mi ln:Int} {l:aC} {fo:ag} {gy nf:Nat} {bo:ag} {fZ nb:Nat} {w:X}
theorem fW.f (h:fW w l fo gy nf)(a:ae):(aZ (aO a l)).1.length<=2000:=PU l a 2000 (fun p b=>(h.b p b).2)
theorem rz {w W:X}(a:Below (w.alloc (K #[Q (M ⟨g,0,U⟩),V m,V t,I J mi,Z fo nf gy,I J ln,Z bo nb fZ] 185)).heap.size (w.alloc (K #[Q (M ⟨g,0,U⟩),V m,V t,I J mi,Z fo nf gy,I J ln,Z bo nb fZ] 185)) W):W.cell? ⟨w.heap.size,0,U⟩=M (Q (M ⟨g,0,U⟩))∧W.cell? ⟨w.heap.size,1,U⟩=M (V m)∧W.cell? ⟨w.heap.size,2,U⟩=M (V t)∧W.cell? ⟨w.heap.size,3,U⟩=M (I J mi)∧W.cell? ⟨w.heap.size,4,U⟩=M (Z fo nf gy)∧W.cell? ⟨w.heap.size,5,U⟩=M (I J ln)∧W.cell? ⟨w.heap.size,6,U⟩=M (Z bo nb fZ):=by
 have r:=(a.block w.heap.size (by simp)).trans (aX w _);exact⟨aq W _ 0 _ _ _ r,aq W _ 1 _ _ _ r,aq W _ 2 _ _ _ r,aq W _ 3 _ _ _ r,aq W _ 4 _ _ _ r,aq W _ 5 _ _ _ r,aq W _ 6 _ _ _ r⟩
theorem Ih (a:ae)(j:a.size<=2000)(h:fW w l fo gy nf)(f:(aZ (aO a l)).2=10):
 Calls prog 213 #[.agg #[Q (M ⟨g,0,U⟩),V m,V t,I J mi,Z fo nf gy,I J ln,Z bo nb fZ],V a] w fun e w'=>e=Y (.tuple #[I J 0,.bool F])∧Below w.heap.size w w':=by
 have i:=(ar _ w).alloc (ak _) (K #[Q (M ⟨g,0,U⟩),V m,V t,I J mi,Z fo nf gy,I J ln,Z bo nb fZ] 185);generalize k:aZ (aO a l)=r at *;obtain⟨v,c⟩:=r;simp only at f;subst f;have n:=rz (g:=g) (m:=m) (t:=t) (mi:=mi) (ln:=ln) (fo:=fo) (gy:=gy) (nf:=nf) (bo:=bo) (fZ:=fZ) (nb:=nb) (w:=w) (ar _ _);generalize (⟨v.toArray⟩:ae)=o at *;go_enter func213,ntmps213;go_wp2_with fail;refine(Eu a j (h.a i) k).mono ?_;rintro e p ⟨rfl,b⟩;have d:=au i b;go_wp2;go_ret2;exact⟨rfl,d⟩
theorem Ci (a:ae)(s:a.size<=2000)(h:fW w l fo gy nf)(o:(aZ (aO a l)).2≠10){x:Int}(i:dh (aZ (aO a l))=(x,true)):
 Calls prog 213 #[.agg #[Q (M ⟨g,0,U⟩),V m,V t,I J mi,Z fo nf gy,I J ln,Z bo nb fZ],V a] w fun e w'=>e=Y (.tuple #[I J x,.bool true])∧Below w.heap.size w w':=by
 have p:=(ar _ w).alloc (ak _) (K #[Q (M ⟨g,0,U⟩),V m,V t,I J mi,Z fo nf gy,I J ln,Z bo nb fZ] 185);have u:=h.f a;generalize y:aZ (aO a l)=r at *;obtain⟨v,c⟩:=r;simp only at o u;unfold dh at i;rw[if_neg o] at i;injection i with d b;rw[gZ,bR] at b;obtain⟨b,f⟩:=b;simp only at d b f;subst f;have z:=BM (g:=g) (m:=m) (t:=t) (mi:=mi) (ln:=ln) (bo:=bo) (fZ:=fZ) (nb:=nb) a s (h.a p) y;have B:∀W,Calls prog 211 #[V ⟨v.toArray⟩] W fun e w'=>e=Y (.tuple #[I J x,.bool true])∧w'=W:=fun W=>by
  have:=sV ⟨v.toArray⟩ W (by show v.toArray.size<=_;rw[cz];unfold maxLen;omega);rw[show(⟨v.toArray⟩:ae).data.toList=v from by simp,d,b] at this;exact this
 have D:=rz (g:=g) (m:=m) (t:=t) (mi:=mi) (ln:=ln) (fo:=fo) (gy:=gy) (nf:=nf) (bo:=bo) (fZ:=fZ) (nb:=nb) (w:=w) (ar _ _);generalize (⟨v.toArray⟩:ae)=G at *;go_enter func213,ntmps213;go_wp2_with fail;refine z.mono ?_;rintro e q ⟨rfl,j⟩;have k:=au p j;go_wp2_with fail;refine(B q).mono ?_;rintro e C ⟨rfl,n⟩;rw[n];go_wp2_with fail;refine(fT 400 U 0 0 q).mono ?_;rintro e C ⟨rfl,n⟩;rw[n];go_wp2;go_ret2;exact⟨rfl,k⟩
theorem CU (a:ae)(x:a.size<=2000)(h:fW w l fo gy nf)(b:(dh (aZ (aO a l))).2=F):
 Calls prog 213 #[.agg #[Q (M ⟨g,0,U⟩),V m,V t,I J mi,Z fo nf gy,I J ln,Z bo nb fZ],V a] w fun e w'=>gM w (bT 400 []) e w':=by
 have i:=(ar _ w).alloc (ak _) (K #[Q (M ⟨g,0,U⟩),V m,V t,I J mi,Z fo nf gy,I J ln,Z bo nb fZ] 185);have D:=h.f a;have j:=GS (aO a l);generalize z:aZ (aO a l)=r at *;obtain⟨v,c⟩:=r;have T:=rz (g:=g) (m:=m) (t:=t) (mi:=mi) (ln:=ln) (fo:=fo) (gy:=gy) (nf:=nf) (bo:=bo) (fZ:=fZ) (nb:=nb) (w:=w) (ar _ _);simp only at j D;unfold dh at b;by_cases k:c=9
 . subst k;go_enter func213,ntmps213;go_wp2_with fail;refine(rp a x (h.a i) z).mono ?_;rintro e B d;have o:=d.f i;obtain⟨G,p,n,f,_,_,_⟩:=d;unfold bV at f;subst f;go_wp2;exact⟨rfl,o⟩
 . have H:c≠10:=fun e=>by subst e;rw[if_pos rfl] at b;cases b
   obtain rfl:c=0:=by omega
   rw[if_neg (by simp)] at b;have q:(bB 10 9 v).2=F:=by
    cases e:(bB 10 9 v).2 with
    | false=>rfl
    | true=>simp[e] at b
   have L:=BM (g:=g) (m:=m) (t:=t) (mi:=mi) (ln:=ln) (bo:=bo) (fZ:=fZ) (nb:=nb) a x (h.a i) z;have N:∀W,Calls prog 211 #[V ⟨v.toArray⟩] W fun e w'=>e=Y (.tuple #[I J (bB 10 9 v).1,.bool F])∧w'=W:=fun W=>by
    have:=sV ⟨v.toArray⟩ W (by show v.toArray.size<=_;rw[cz];unfold maxLen;omega);rw[show(⟨v.toArray⟩:ae).data.toList=v from by simp,q] at this;exact this
   generalize (bB 10 9 v).1=y at *;generalize (⟨v.toArray⟩:ae)=vb at *;go_enter func213,ntmps213;go_wp2_with fail;refine L.mono ?_;rintro e C ⟨rfl,s⟩;have u:=au i s;go_wp2_with fail;refine(N C).mono ?_;rintro e B ⟨rfl,S⟩;rw[S];go_wp2_with fail;refine(iA 400 400 rfl C).mono ?_;rintro e B d;have o:=d.f u;obtain⟨G,p,n,f,_,_,_⟩:=d;unfold bV at f;subst f;go_wp2;exact⟨rfl,o⟩
end
section
variable {g:Nat} {m t:ae} {mi ln:Int} {l:aC} {fo:ag} {gy nf:Nat} {bo:ag} {fZ nb:Nat} {w:X}
theorem gM.a {w a b:X}{r:iX}{e:Ending}(d:Below w.heap.size w a)(c:gM a r e b):Hid (gM w r e b)∧∃(ao:ag) (cap n:Nat),e=bV (r.1:Int) ao n cap:=by
 refine⟨c.f d,?_⟩;obtain⟨ao,cap,n,f,_⟩:=c;exact⟨ao,cap,n,f⟩
theorem GR {r:ab×Nat}(c:r.2≠10){x:Int}(a:dh r=(x,true)):0<=x:=by
 unfold dh at a;rw[if_neg c] at a;injection a with d b;rw[gZ] at b;rw[<-d];exact(tP b.1).1
theorem GQ {r:ab×Nat}(a:r.2=10):dh r=(-1,true):=by unfold dh;rw[if_pos a]
def sv (l:aC):Prop:=(aZ (aO nh l)).2=9∨((aZ (aO nh l)).2=0∧(aZ (aO nh l)).1≠kV.data.toList)∨(0<=(dh (aZ (aO gc l))).1<->(aZ (aO nh l)).2=0)
theorem QM (h:fW w l fo gy nf)(c:(dh (aZ (aO gc l))).2=F):
 Calls prog 207 #[.agg #[Q (M ⟨g,0,U⟩),V m,V t,I J mi,Z fo nf gy,I J ln,Z bo nb fZ]] w fun e w'=>gM w (bT 400 []) e w':=by
 have a:=(ar _ w).alloc (ak _) (K #[Q (M ⟨g,0,U⟩),V m,V t,I J mi,Z fo nf gy,I J ln,Z bo nb fZ] 185);have j:=rz (g:=g) (m:=m) (t:=t) (mi:=mi) (ln:=ln) (fo:=fo) (gy:=gy) (nf:=nf) (bo:=bo) (fZ:=fZ) (nb:=nb) (w:=w) (ar _ _);go_enter func207,ntmps207;go_wp2_with fail;refine(CU gB (by decide) (h.a a) (by rw[uZ];exact c)).mono ?_;rintro e k d;obtain⟨f,p,i,n,b⟩:=d.a a;unfold bV at b;subst b;go_wp2;exact⟨rfl,f.o⟩
theorem QN (h:fW w l fo gy nf)(hx:(dh (aZ (aO gc l))).2=true):
 (sv l->Calls prog 207 #[.agg #[Q (M ⟨g,0,U⟩),V m,V t,I J mi,Z fo nf gy,I J ln,Z bo nb fZ]] w fun e w'=>gM w (bT 400 []) e w') ∧
 (¬sv l->Calls prog 207 #[.agg #[Q (M ⟨g,0,U⟩),V m,V t,I J mi,Z fo nf gy,I J ln,Z bo nb fZ]] w fun e w'=>e=Y (I J (dh (aZ (aO gc l))).1)∧Below w.heap.size w w'):=by
 have T:=(ar _ w).alloc (ak _) (K #[Q (M ⟨g,0,U⟩),V m,V t,I J mi,Z fo nf gy,I J ln,Z bo nb fZ] 185);have HC:∀W,Below (w.alloc (K #[Q (M ⟨g,0,U⟩),V m,V t,I J mi,Z fo nf gy,I J ln,Z bo nb fZ] 185)).heap.size (w.alloc (K #[Q (M ⟨g,0,U⟩),V m,V t,I J mi,Z fo nf gy,I J ln,Z bo nb fZ] 185)) W->W.cell? ⟨w.heap.size,0,U⟩=M (Q (M ⟨g,0,U⟩))∧W.cell? ⟨w.heap.size,1,U⟩=M (V m)∧W.cell? ⟨w.heap.size,2,U⟩=M (V t)∧W.cell? ⟨w.heap.size,3,U⟩=M (I J mi)∧W.cell? ⟨w.heap.size,4,U⟩=M (Z fo nf gy)∧W.cell? ⟨w.heap.size,5,U⟩=M (I J ln)∧W.cell? ⟨w.heap.size,6,U⟩=M (Z bo nb fZ):=fun W p=>rz p;obtain⟨x0,x1,x2,x3,x4,x5,x6⟩:=HC _ (ar _ _);have key:∃(y:Int) (f:Bool),Hid ((dh (aZ (aO gc l))).1=(if f then y else -1)∧(f=true->0<=y))∧∀W,Below w.heap.size w W->Calls prog 213 #[.agg #[Q (M ⟨g,0,U⟩),V m,V t,I J mi,Z fo nf gy,I J ln,Z bo nb fZ],V gB] W fun e w'=>e=Y (.tuple #[I J y,.bool f])∧Below W.heap.size W w':=by
  by_cases hc:(aZ (aO gc l)).2=10
  . exact⟨0,F,⟨by rw[GQ hc];rfl,fun e=>by cases e⟩,fun W p=>Ih gB (by decide) (h.a p) (by rw[uZ];exact hc)⟩
  . generalize hy:dh (aZ (aO gc l))=r at *;obtain⟨y,b⟩:=r;simp only at hx;subst hx;exact⟨y,true,⟨rfl,fun _=>GR hc hy⟩,fun W p=>Ci gB (by decide) (h.a p) (by rw[uZ];exact hc) (by rw[uZ];exact hy)⟩
 obtain⟨y,f,D,Ud⟩:=key;have OQ:=Ud _ T;unfold gB at OQ;have hco:=GS (aO nh l);unfold sv;generalize hv:aZ (aO nh l)=r at *;obtain⟨v,c⟩:=r;have G:aZ (aO gC l)=(v,c):=by rw[PX];exact hv
 simp only at hco;generalize (dh (aZ (aO gc l))).1=z at *;rcases hco with rfl | rfl | rfl
 . have B:∀W,Below w.heap.size w W->Calls prog 151 #[.agg #[Q (M ⟨g,0,U⟩),V m,V t,I J mi,Z fo nf gy,I J ln,Z bo nb fZ],V gC] W fun e w'=>e=Y (.tuple #[V ⟨v.toArray⟩,.bool true])∧Below W.heap.size W w':=fun W p=>BM gC (by decide) (h.a p) G;unfold gC at B;obtain⟨b1,hb1⟩:∃b,((⟨v.toArray⟩:ae).toList==([49]:ab))=b:=⟨_,rfl⟩;have e1:v=kV.data.toList<->b1=true:=by rw[<-hb1];exact xH v _
   generalize (⟨v.toArray⟩:ae)=vb at *;refine⟨fun q=>?_,fun s=>?_⟩
   . have yH:=aa q;go_enter func207,ntmps207;go_wp2_with fail;refine OQ.mono ?_;rintro e C ⟨rfl,a⟩;have d:=au T a;obtain⟨x0,x1,x2,x3,x4,x5,x6⟩:=HC _ a;go_wp2_with fail;refine(B C d).mono ?_;rintro e k ⟨rfl,j⟩;have i:=au d j;cases b1 with
     | false =>
       go_wp2_with fail;refine(iA 400 400 rfl k).mono ?_;rintro e w9 H;obtain⟨L,ao,N,n,u⟩:=H.a i;unfold bV at u;subst u;go_wp2;exact⟨rfl,L.o⟩
     | true =>
       go_wp2_with fail;refine(fT 400 U 0 0 k).mono ?_;rintro e w3 ⟨rfl,x⟩;rw[x];cases f with
       | false =>
         exfalso;have S:=yH.o;have h2:=D.o.1;simp only[xR,if_false] at h2;rcases S with S | S | S
         . cases S
         . exact S.2 (e1.2 (by first | exact rfl | trivial))
         . have:=S.2 (by first | exact rfl | trivial);omega
       | true =>
         go_wp2_with fail;refine(iA 400 400 rfl k).mono ?_;rintro e w9 H;obtain⟨L,ao,N,n,u⟩:=H.a i;unfold bV at u;subst u;go_wp2;exact⟨rfl,L.o⟩
   . have su:=aa s;have hb:b1=true:=by
      cases b1 with
      | true=>rfl
      | false=>exact absurd (R (A ⟨rfl,fun e=>by have:=e1.1 e;cases this⟩)) su.o
     subst hb;have ht:f=F:=by
      cases f with
      | false=>rfl
      | true =>
        refine absurd (R (R ⟨fun _=>rfl,fun _=>?_⟩)) su.o;have h2:=D.o.1;have h3:=D.o.2 rfl;rw[h2];exact h3
     subst ht;have hz:z=-1:=D.o.1;subst hz;go_enter func207,ntmps207;go_wp2_with fail;refine OQ.mono ?_;rintro e C ⟨rfl,a⟩;have d:=au T a;obtain⟨x0,x1,x2,x3,x4,x5,x6⟩:=HC _ a;go_wp2_with fail;refine(B C d).mono ?_;rintro e k ⟨rfl,j⟩;have i:=au d j;go_wp2_with fail;refine(fT 400 U 0 0 k).mono ?_;rintro e w3 ⟨rfl,x⟩;rw[x];go_wp2_with fail;refine(fT 400 U 0 0 k).mono ?_;rintro e w3 ⟨rfl,x⟩;rw[x];go_wp2;go_ret;exact⟨rfl,i⟩
 . refine⟨fun _=>?_,fun s=>absurd (A rfl) s⟩;have B:∀W,Below w.heap.size w W->Calls prog 151 #[.agg #[Q (M ⟨g,0,U⟩),V m,V t,I J mi,Z fo nf gy,I J ln,Z bo nb fZ],V gC] W fun e w'=>gM W (bT 400 []) e w':=fun W p=>rp gC (by decide) (h.a p) G;unfold gC at B;go_enter func207,ntmps207;go_wp2_with fail;refine OQ.mono ?_;rintro e C ⟨rfl,a⟩;have d:=au T a;obtain⟨x0,x1,x2,x3,x4,x5,x6⟩:=HC _ a;go_wp2_with fail;refine(B C d).mono ?_;rintro e w9 H;obtain⟨L,ao,N,n,u⟩:=H.a d;unfold bV at u;subst u;go_wp2;exact⟨rfl,L.o⟩
 . have B:∀W,Below w.heap.size w W->Calls prog 151 #[.agg #[Q (M ⟨g,0,U⟩),V m,V t,I J mi,Z fo nf gy,I J ln,Z bo nb fZ],V gC] W fun e w'=>e=Y (.tuple #[V ⟨v.toArray⟩,.bool F])∧Below W.heap.size W w':=fun W p=>Eu gC (by decide) (h.a p) G;unfold gC at B;generalize (⟨v.toArray⟩:ae)=vb at *;cases f with
   | false =>
     have hz:z=-1:=D.o.1;refine⟨fun _=>?_,fun s=>absurd (R (R ⟨fun e=>by omega,fun e=>by cases e⟩)) s⟩;go_enter func207,ntmps207;go_wp2_with fail;refine OQ.mono ?_;rintro e C ⟨rfl,a⟩;have d:=au T a;obtain⟨x0,x1,x2,x3,x4,x5,x6⟩:=HC _ a;go_wp2_with fail;refine(B C d).mono ?_;rintro e k ⟨rfl,j⟩;have i:=au d j;go_wp2_with fail;refine(fT 400 U 0 0 k).mono ?_;rintro e w3 ⟨rfl,x⟩;rw[x];go_wp2_with fail;refine(iA 400 400 rfl k).mono ?_;rintro e w9 H;obtain⟨L,ao,N,n,u⟩:=H.a i;unfold bV at u;subst u;go_wp2;exact⟨rfl,L.o⟩
   | true =>
     have hz:z=y:=D.o.1;subst hz;have hpos:=D.o.2 rfl;refine⟨fun q=>?_,fun _=>?_⟩
     . exfalso;rcases q with e | e | e
       . cases e
       . cases e.1
       . have:=e.1 hpos;cases this
     go_enter func207,ntmps207;go_wp2_with fail;refine OQ.mono ?_;rintro e C ⟨rfl,a⟩;have d:=au T a;obtain⟨x0,x1,x2,x3,x4,x5,x6⟩:=HC _ a;go_wp2_with fail;refine(B C d).mono ?_;rintro e k ⟨rfl,j⟩;have i:=au d j;go_wp2_with fail;refine(fT 400 U 0 0 k).mono ?_;rintro e w3 ⟨rfl,x⟩;rw[x];go_wp2_with fail;refine(fT 400 U 0 0 k).mono ?_;rintro e w3 ⟨rfl,x⟩;rw[x];go_wp2;go_ret;exact⟨rfl,i⟩
end
def kq (s:ae):Bool:=decide (7<=s.size)&&decide (s.data.toList.take 7=kr.data.toList)
theorem BO (s:ae)(w:X)(g:s.size<=100000):Calls prog 148 #[V s,V ⟨#[47,102,105,108,101,115,47]⟩] w fun e w'=>e=Y (.bool (kq s))∧w'=w:=by
 by_cases d:7<=s.size
 . have a:(7:Int)<=(s.size:Int):=by omega
   obtain⟨b,f⟩:∃b,((s.extract 0 7).toList==([47,102,105,108,101,115,47]:ab))=b:=⟨_,rfl⟩;have c:Hid (kq s=b):=by
    unfold Hid kq;rw[br d,Bool.true_and,<-f,P8];rw[iM,bR,cR];rfl
   rw[c.o];go_enter func148,ntmps148;go_wp2;go_ret;exact⟨rfl,rfl⟩
 . have a:¬(7:Int)<=(s.size:Int):=by omega
   have c:Hid (kq s=F):=by
    unfold Hid kq;rw[ba d,Bool.false_and]
   rw[c.o];go_enter func148,ntmps148;go_wp2;go_ret;exact⟨rfl,rfl⟩
theorem Cm (s:ae)(w:X)(a:s.size<=100000):Calls prog 95 #[V s,V ⟨#[47,102,105,108,101,115,47]⟩] w fun e w'=>e=Y (.bool (kq s))∧w'=w:=by
 have c:=aa (BO s w a);generalize kq s=b at *;go_enter func95,ntmps95;go_wp2_with fail;refine c.o.mono ?_;rintro e f ⟨rfl,d⟩;rw[d];go_wp2;go_ret;exact⟨rfl,rfl⟩
theorem QO (s:ae)(w:X)(a:s.size<=100000):Calls prog 172 #[V s] w fun e w'=>e=Y (.bool (sq s))∧w'=w:=by
 have d:=aa (Cm s w a);obtain⟨b,f⟩:∃b,(s.toList==([47,102,105,108,101,115]:ab))=b:=⟨_,rfl⟩;have g:s=nY<->b=true:=by rw[<-f];exact nX s nY _ rfl
 have i:Hid (sq s=(b||kq s)):=by
  unfold Hid sq;rw[show decide (s=nY)=b from by rw[iM,bR];exact g];rfl
 rw[i.o];generalize kq s=c at *;cases b with
 | true =>
   go_enter func172,ntmps172;go_wp2;go_ret;exact⟨rfl,rfl⟩
 | false =>
   go_enter func172,ntmps172;go_wp2_with fail;refine d.o.mono ?_;rintro e k ⟨rfl,j⟩;rw[j];go_wp2;go_ret;exact⟨by simp,rfl⟩
theorem MQ (s:ae)(w:X)(d:s.size<=100000)(a:kq s=true):Calls prog 210 #[V s,V ⟨#[47,102,105,108,101,115,47]⟩] w fun e w'=>e=Y (.tuple #[V (s.extract 7 s.size),.bool true])∧w'=w:=by
 have c:=aa (BO s w d);rw[a] at c;have j:7<=s.size:=by
  unfold kq at a;rw[gZ,bR] at a;exact a.1
 have f:(7:Int)<=(s.size:Int):=by omega
 have g:Hid (Calls prog 267 #[V s,V ⟨#[47,102,105,108,101,115,47]⟩] w fun e w'=>e=Y (.tuple #[V (s.extract 7 s.size),.bool true])∧w'=w):=by
  unfold Hid;go_enter func267,ntmps267;go_wp2_with fail;refine c.o.mono ?_;rintro e i ⟨rfl,b⟩;rw[b];go_wp2;go_ret2;exact⟨rfl,rfl⟩
 generalize s.extract 7 s.size=x at *;go_enter func210,ntmps210;go_wp2_with fail;refine g.o.mono ?_;rintro e i ⟨rfl,b⟩;rw[b];go_wp2;go_ret2;exact⟨rfl,rfl⟩
theorem QP (s:ae)(w:X)(c:s.size<=100000)(d:kq s=F):Calls prog 210 #[V s,V ⟨#[47,102,105,108,101,115,47]⟩] w fun e w'=>e=Y (.tuple #[V s,.bool F])∧w'=w:=by
 have b:=aa (BO s w c);rw[d] at b;have f:Hid (Calls prog 267 #[V s,V ⟨#[47,102,105,108,101,115,47]⟩] w fun e w'=>e=Y (.tuple #[V s,.bool F])∧w'=w):=by
  unfold Hid;go_enter func267,ntmps267;go_wp2_with fail;refine b.o.mono ?_;rintro e g ⟨rfl,a⟩;rw[a];go_wp2;go_ret2;exact⟨rfl,rfl⟩
 go_enter func210,ntmps210;go_wp2_with fail;refine f.o.mono ?_;rintro e g ⟨rfl,a⟩;rw[a];go_wp2;go_ret2;exact⟨rfl,rfl⟩
inductive oT (S:Nat->Prop)(w:X)(g:Nat)(r:av×iX):Ending->X->Prop
 | ret {ao:ag} {cap n:Nat} {w':X} (hn:r.2.2.length=n) (hO:aK w' w.heap.size 148 2 ao cap n (aI r.2.2)) (hat:aS w' (ay S w) g r.1) (hT:am S w w'):oT S w g r (Y (.agg #[I J (r.2.1:Int),Z ao n cap,Z U 0 0])) w'
 | gave {ao:ag} {cap n:Nat} {w':X} (hn:r.2.2.length=n) (hO:aK w' w.heap.size 148 2 ao cap n (aI r.2.2)) (hat:aS w' (ay S w) g r.1) (hT:am S w w'):oT S w g r (bV (r.2.1:Int) ao n cap) w'
theorem oT.a {S:Nat->Prop}{w:X}{g:Nat}{r:av×iX}{e:Ending}{w':X}(h:vW aS S w g r e w'):oT S w g r e w':=by
 obtain⟨⟨i,b,n,rfl,c,d⟩,a,f⟩:=h;exact .ret c d a f
structure jQ (w0 w:X)(S:Nat->Prop):Prop where
 c:dj w0
 a:Below w0.heap.size w0 w
 b:∀k,S k->w0.heap.size<=k
section
variable {S S':Nat->Prop} {w0 w W W':X} {g:Nat} {bs:List Obj} {s:av}
theorem bZ.nT {O:nt}(h:bZ O S w g bs s S' W):∀k,S' k->ay S w k:=fun k e=>by
 rcases h.d k e with a | a
 . exact A a.1
 . exact R (by omega)
theorem bZ.G {O:nt}(h:bZ O S w g bs s S' W)(p:jQ w0 w S):dj W:=p.c.a (p.a.trans (h.e.below (fun k e=>p.b k e.1) p.a.size))
theorem bZ.f (h:bZ aS S w g bs s S' W){a:iX}{e:Ending}(c:gM W a e W'):Hid (oT S w g (s,a) e W')∧∃(ao:ag) (cap n:Nat),e=bV (a.1:Int) ao n cap:=by
 obtain⟨ao,cap,n,rfl,d,f,i⟩:=c;have b:=h.a bH i;exact⟨.gave d (f.r (cq (dR _ _) h.c)) (b.b.a (fun k _ e=>b.nT k e)) (b.e.j (fun k e=>e.1)),ao,cap,n,rfl⟩
theorem bZ.kU (h:bZ aS S w g bs s S' W){r:av×iX}{ao:ag}{cap n:Nat}(c:r.2.2.length=n)(d:aK W' W.heap.size 148 2 ao cap n (aI r.2.2))(a:aS W' (ay S' W) g r.1)(f:am S' W W'):oT S w g r (bV (r.2.1:Int) ao n cap) W':=by
 have b:=h.r a f;exact .gave c (d.r (cq (dR _ _) h.c)) (b.b.a (fun k _ e=>b.nT k e)) (b.e.j (fun k e=>e.1))
end
section
variable {g:Nat} {m t:ae} {mi ln:Int} {l:aC} {fo:ag} {gy nf:Nat} {bo:ag} {fZ nb:Nat} {w:X} {S:Nat->Prop} {s:av}
theorem xt (h:aS w S g s)(a:Obj):bZ aS S w g [K #[Q (M ⟨g,0,U⟩),V m,V t,I J mi,Z fo nf gy,I J ln,Z bo nb fZ] 185 (0,0),a] s (fun k=>S k∧k<w.heap.size) ((w.alloc (K #[Q (M ⟨g,0,U⟩),V m,V t,I J mi,Z fo nf gy,I J ln,Z bo nb fZ] 185)).alloc a):=by
 have b:(w.alloc (K #[Q (M ⟨g,0,U⟩),V m,V t,I J mi,Z fo nf gy,I J ln,Z bo nb fZ] 185)).heap.size=w.heap.size+1:=bF ..;exact((bZ.jY bH h).y bH rfl (fun k e=>e.2) _).y bH b (fun k e=>by rw[b];have:=e.2;omega) _
theorem bZ.lH {bs:List Obj}{S':Nat->Prop}{a:av}{W:X}(h:bZ aS S w g (K #[Q (M ⟨g,0,U⟩),V m,V t,I J mi,Z fo nf gy,I J ln,Z bo nb fZ] 185 (0,0)::bs) a S' W):W.cell? ⟨w.heap.size,0,U⟩=M (Q (M ⟨g,0,U⟩))∧W.cell? ⟨w.heap.size,1,U⟩=M (V m)∧W.cell? ⟨w.heap.size,2,U⟩=M (V t)∧W.cell? ⟨w.heap.size,3,U⟩=M (I J mi)∧W.cell? ⟨w.heap.size,4,U⟩=M (Z fo nf gy)∧W.cell? ⟨w.heap.size,5,U⟩=M (I J ln)∧W.cell? ⟨w.heap.size,6,U⟩=M (Z bo nb fZ):=by
 have r:=h.H 0 rfl;exact⟨aq W _ 0 _ _ _ r,aq W _ 1 _ _ _ r,aq W _ 2 _ _ _ r,aq W _ 3 _ _ _ r,aq W _ 4 _ _ _ r,aq W _ 5 _ _ _ r,aq W _ 6 _ _ _ r⟩
theorem B2 (h:aS w S g s)(ok:aJ s)(hP:dj w)(ht:t.size<=100000):
 (lJ s.h t=U->Calls prog 155 #[.agg #[Q (M ⟨g,0,U⟩),V m,V t,I J mi,Z fo nf gy,I J ln,Z bo nb fZ]] w fun e w'=>gM w (bT 404 []) e w') ∧
 (∀u,lJ s.h t=M u->Calls prog 155 #[.agg #[Q (M ⟨g,0,U⟩),V m,V t,I J mi,Z fo nf gy,I J ln,Z bo nb fZ]] w fun e w'=>∃(ao:ag) (cap:Nat),e=Y (.agg #[I J u.c,I J u.a,V u.d,Z ao u.b.length cap,I J u.e])∧Below w.heap.size w w'):=by
 have T2:bZ aS S w g [K #[Q (M ⟨g,0,U⟩),V m,V t,I J mi,Z fo nf gy,I J ln,Z bo nb fZ] 185 (0,0),K #[I J 0,I J 0,V ⟨#[]⟩,Z U 0 0,I J 0] 92] s (fun k=>S k∧k<w.heap.size) ((w.alloc (K #[Q (M ⟨g,0,U⟩),V m,V t,I J mi,Z fo nf gy,I J ln,Z bo nb fZ] 185)).alloc (K #[I J 0,I J 0,V ⟨#[]⟩,Z U 0 0,I J 0] 92)):=xt h _;have z:Below w.heap.size w ((w.alloc (K #[Q (M ⟨g,0,U⟩),V m,V t,I J mi,Z fo nf gy,I J ln,Z bo nb fZ] 185)).alloc (K #[I J 0,I J 0,V ⟨#[]⟩,Z U 0 0,I J 0] 92)):=au ((ar _ w).alloc (ak _) _) ((ar _ _).alloc (ak _) _);have HC:∀W,bZ aS S w g [K #[Q (M ⟨g,0,U⟩),V m,V t,I J mi,Z fo nf gy,I J ln,Z bo nb fZ] 185 (0,0),K #[I J 0,I J 0,V ⟨#[]⟩,Z U 0 0,I J 0] 92] s (fun k=>S k∧k<w.heap.size) W->W.cell? ⟨w.heap.size,0,U⟩=M (Q (M ⟨g,0,U⟩))∧W.cell? ⟨w.heap.size,1,U⟩=M (V m)∧W.cell? ⟨w.heap.size,2,U⟩=M (V t)∧W.cell? ⟨w.heap.size,3,U⟩=M (I J mi)∧W.cell? ⟨w.heap.size,4,U⟩=M (Z fo nf gy)∧W.cell? ⟨w.heap.size,5,U⟩=M (I J ln)∧W.cell? ⟨w.heap.size,6,U⟩=M (Z bo nb fZ):=fun W L=>L.lH;obtain⟨x0,x1,x2,x3,x4,x5,x6⟩:=HC _ T2;obtain⟨gs,gl,lo,lca,P,hI⟩:=h;have HG:∀W,Below w.heap.size w W->W.cell? ⟨g,0,U⟩=M (Q (M ⟨gs,0,U⟩))∧cD W P gs s.h:=fun W L=>⟨aq W _ 0 _ _ _ (hI.f L).a,(hI.f L).d⟩;cases q:kq t with
 | false =>
   have B:∀W,Calls prog 210 #[V t,V ⟨#[47,102,105,108,101,115,47]⟩] W fun e w'=>e=Y (.tuple #[V t,.bool F])∧w'=W:=fun W=>QP t W ht q;have sS:∀W,Calls prog 211 #[V t] W fun e w'=>e=Y (.tuple #[I J (bB 10 9 t.data.toList).1,.bool (bB 10 9 t.data.toList).2])∧w'=W:=fun W=>sV t W (by unfold maxLen;omega);have c:lJ s.h t=U:=GU (fun x=>by
    unfold kq at q;rw[br (by omega:7<=t.size),Bool.true_and,cC] at q;exact q x.2.1) s.h
   refine⟨fun _=>?_,fun u r=>by rw[c] at r;cases r⟩;generalize bB 10 9 t.data.toList=rn at *;obtain⟨n,okn⟩:=rn;go_enter func155,ntmps155;go_wp2_with fail;refine(B _).mono ?_;rintro e C ⟨rfl,a⟩;rw[a];go_wp2_with fail;refine(sS _).mono ?_;rintro e C ⟨rfl,a⟩;rw[a];go_wp2_with fail;refine(iA 404 404 rfl _).mono ?_;rintro e w9 T;obtain⟨NP,jE,ig,n9,G⟩:=T.a z;unfold bV at G;subst G;go_wp2;exact⟨rfl,NP.o⟩
 | true =>
   have B:∀W,Calls prog 210 #[V t,V ⟨#[47,102,105,108,101,115,47]⟩] W fun e w'=>e=Y (.tuple #[V (t.extract 7 t.size),.bool true])∧w'=W:=fun W=>MQ t W ht q;have sS:∀W,Calls prog 211 #[V (t.extract 7 t.size)] W fun e w'=>e=Y (.tuple #[I J (bB 10 9 (t.data.toList.drop 7)).1,.bool (bB 10 9 (t.data.toList.drop 7)).2])∧w'=W:=fun W=>by
    have:=sV (t.extract 7 t.size) W (by rw[ByteArray.size_extract];unfold maxLen;omega);rw[GX] at this;exact this
   have hin2:t.data.toList.take 7=kr.data.toList:=by
    unfold kq at q;rw[gZ,bR,bR] at q;exact q.2
   have hsm:(bB 10 9 (t.data.toList.drop 7)).2=true->0<=(bB 10 9 (t.data.toList.drop 7)).1∧(bB 10 9 (t.data.toList.drop 7)).1<1000000000∧7<t.size:=fun e=>⟨(tP e).1,(tP e).2,by
    rcases eN 7 t.size with h | h
    . exact h
    . exfalso;rw[oO (by rw[cJ];exact h)] at e;revert e;decide⟩
   have hno:((bB 10 9 (t.data.toList.drop 7)).2=F∨bx 8 (bB 10 9 (t.data.toList.drop 7)).1.toNat≠t.data.toList.drop 7)->lJ s.h t=U:=fun e=>GU (fun x=>e.elim (fun e=>by have h3:=x.2.2.1;rw[e] at h3;cases h3) (fun e=>e x.2.2.2)) s.h;have hye:=fun(h7:7<t.size) (e:(bB 10 9 (t.data.toList.drop 7)).2=true) (e2:bx 8 (bB 10 9 (t.data.toList.drop 7)).1.toNat=t.data.toList.drop 7)=>PW (t:=t) ⟨h7,hin2,e,e2⟩ s.h;generalize bB 10 9 (t.data.toList.drop 7)=rn at *;obtain⟨n,okn⟩:=rn;simp only at hsm hno hye;cases okn with
   | false =>
     have c:=hno (A rfl);refine⟨fun _=>?_,fun u r=>by rw[c] at r;cases r⟩;generalize t.extract 7 t.size=nm at *;go_enter func155,ntmps155;go_wp2_with fail;refine(B _).mono ?_;rintro e C ⟨rfl,a⟩;rw[a];go_wp2_with fail;refine(sS _).mono ?_;rintro e C ⟨rfl,a⟩;rw[a];go_wp2_with fail;refine(iA 404 404 rfl _).mono ?_;rintro e w9 T;obtain⟨NP,jE,ig,n9,G⟩:=T.a z;unfold bV at G;subst G;go_wp2;exact⟨rfl,NP.o⟩
   | true =>
     obtain⟨hn0,hn1,h7⟩:=hsm rfl;have Yr:∀W,Below w.heap.size w W->Calls prog 141 #[I J n] W fun e w'=>e=Y (V (eL n.toNat))∧Below W.heap.size W w':=fun W L=>by
      have:=mE n.toNat (by omega) W (hP.a L);rw[show((n.toNat:Nat):Int)=n from by omega] at this;exact this
     have HI2:=Yr _ z;obtain⟨bs,hbs⟩:∃b,((eL n.toNat).toList==(t.extract 7 t.size).toList)=b:=⟨_,rfl⟩;have eS:bx 8 n.toNat=t.data.toList.drop 7<->bs=true:=by
      rw[<-hbs,Lib.toList_data,Lib.toList_data,GX,cR];rfl
     generalize eL n.toNat=nd at *;cases bs with
     | false =>
       have c:=hno (R (fun e=>by have:=eS.1 e;cases this));refine⟨fun _=>?_,fun u r=>by rw[c] at r;cases r⟩;generalize t.extract 7 t.size=nm at *;go_enter func155,ntmps155;go_wp2_with fail;refine(B _).mono ?_;rintro e C ⟨rfl,a⟩;rw[a];go_wp2_with fail;refine(sS _).mono ?_;rintro e C ⟨rfl,a⟩;rw[a];go_wp2_with fail;refine HI2.mono ?_;rintro e w3 ⟨rfl,y⟩;have j:=au z y;go_wp2_with fail;refine(iA 404 404 rfl _).mono ?_;rintro e w9 T;obtain⟨NP,jE,ig,n9,G⟩:=T.a j;unfold bV at G;subst G;go_wp2;exact⟨rfl,NP.o⟩
     | true =>
       have r:=hye h7 rfl (eS.2 rfl);generalize t.extract 7 t.size=nm at *;cases hp:cE s.h.l n with
       | none =>
         rw[hp] at r;simp only at r;have ZP:∀W,Below w.heap.size w W->Calls prog 32 #[Q (M ⟨gs,0,U⟩),I J n] W fun e w'=>e=Y (.tuple #[.agg #[I J 0,I J 0,V ⟨#[]⟩,Z U 0 0,I J 0],.bool F])∧Below W.heap.size W w':=fun W L=>Ef s.h P gs n W (HG W L).2 ok.h hp;refine⟨fun _=>?_,fun u d=>by rw[r] at d;cases d⟩;go_enter func155,ntmps155;go_wp2_with fail;refine(B _).mono ?_;rintro e C ⟨rfl,a⟩;rw[a];go_wp2_with fail;refine(sS _).mono ?_;rintro e C ⟨rfl,a⟩;rw[a];go_wp2_with fail;refine HI2.mono ?_;rintro e w3 ⟨rfl,y⟩;have j:=au z y;have H3:=T2.a bH y;obtain⟨x0,x1,x2,x3,x4,x5,x6⟩:=HC _ H3;have g0:=(HG _ j).1;go_wp2_with fail;refine(fT 404 U 0 0 _).mono ?_;rintro e C ⟨rfl,a⟩;rw[a];go_wp2_with fail;refine(ZP _ j).mono ?_;rintro e f ⟨rfl,N⟩;have jL:=au (au j N) ((ar _ f).alloc (ak _) (K #[I J 0,I J 0,V ⟨#[]⟩,Z U 0 0,I J 0] 92));go_wp2_with fail;refine(iA 404 404 rfl _).mono ?_;rintro e w9 T;obtain⟨NP,jE,ig,n9,G⟩:=T.a jL;unfold bV at G;subst G;go_wp2;exact⟨rfl,NP.o⟩
       | some i =>
         rw[hp] at r;simp only at r;have hi:=mu hp;rw[iz hi] at r;have ZP:∀W,Below w.heap.size w W->Calls prog 32 #[Q (M ⟨gs,0,U⟩),I J n] W fun e w'=>∃ao cap,e=Y (.tuple #[.agg #[I J s.h.l[i].c,I J s.h.l[i].a,V s.h.l[i].d,Z ao s.h.l[i].b.length cap,I J s.h.l[i].e],.bool true])∧aB w' ao cap s.h.l[i].b∧Below W.heap.size W w':=fun W L=>yF s.h P gs n i W (HG W L).2 ok.h hp hi;generalize s.h.l[i]=u0 at *;refine⟨fun d=>(by rw[r] at d;cases d),fun u d=>?_⟩;rw[r] at d;injection d with d;subst d;generalize u0.b.length=D at *;go_enter func155,ntmps155;go_wp2_with fail;refine(B _).mono ?_;rintro e C ⟨rfl,a⟩;rw[a];go_wp2_with fail;refine(sS _).mono ?_;rintro e C ⟨rfl,a⟩;rw[a];go_wp2_with fail;refine HI2.mono ?_;rintro e w3 ⟨rfl,y⟩;have j:=au z y;have H3:=T2.a bH y;obtain⟨x0,x1,x2,x3,x4,x5,x6⟩:=HC _ H3;have g0:=(HG _ j).1;go_wp2_with fail;refine(fT 404 U 0 0 _).mono ?_;rintro e C ⟨rfl,a⟩;rw[a];go_wp2_with fail;refine(ZP _ j).mono ?_;rintro e f ⟨ao,cap,rfl,_,N⟩;have hb5:=(ar _ f).alloc (ak _) (K #[I J u0.c,I J u0.a,V u0.d,Z ao D cap,I J u0.e] 92);have oC:=au (au j N) hb5;have H:=((H3.a bH N).a bH hb5).H 1 rfl;have v0:(f.alloc (K #[I J u0.c,I J u0.a,V u0.d,Z ao D cap,I J u0.e] 92)).cell? ⟨f.heap.size,0,U⟩=M (I J u0.c):=World.cell?_alloc_mark f _ _ _ 0;have v1:(f.alloc (K #[I J u0.c,I J u0.a,V u0.d,Z ao D cap,I J u0.e] 92)).cell? ⟨f.heap.size,1,U⟩=M (I J u0.a):=World.cell?_alloc_mark f _ _ _ 1;have v2:(f.alloc (K #[I J u0.c,I J u0.a,V u0.d,Z ao D cap,I J u0.e] 92)).cell? ⟨f.heap.size,2,U⟩=M (V u0.d):=World.cell?_alloc_mark f _ _ _ 2;have v3:(f.alloc (K #[I J u0.c,I J u0.a,V u0.d,Z ao D cap,I J u0.e] 92)).cell? ⟨f.heap.size,3,U⟩=M (Z ao D cap):=World.cell?_alloc_mark f _ _ _ 3;have v4:(f.alloc (K #[I J u0.c,I J u0.a,V u0.d,Z ao D cap,I J u0.e] 92)).cell? ⟨f.heap.size,4,U⟩=M (I J u0.e):=World.cell?_alloc_mark f _ _ _ 4;have z0:=aq _ _ 0 _ _ _ H;have z1:=aq _ _ 1 _ _ _ H;have z2:=aq _ _ 2 _ _ _ H;have z3:=aq _ _ 3 _ _ _ H;have z4:=aq _ _ 4 _ _ _ H
         have y0:=aN _ _ 0 _ _ H;have y1:=aN _ _ 1 _ _ H;have y2:=aN _ _ 2 _ _ H;have y3:=aN _ _ 3 _ _ H;have y4:=aN _ _ 4 _ _ H
         simp at z0 z1 z2 z3 z4;go_upto_region 5 with fail
         generalize (f.alloc (K #[I J u0.c,I J u0.a,V u0.d,Z ao D cap,I J u0.e] 92))=w5 at *;generalize f.heap.size=k4 at *;go_wp2_with fail;refine(fT 404 U 0 0 _).mono ?_;rintro e C ⟨rfl,a⟩;rw[a];go_wp2;have hb6:=((((oC.setCell (p:=⟨w.heap.size+1,0,U⟩) (dR _ _) (I J u0.c)).setCell (p:=⟨w.heap.size+1,1,U⟩) (dR _ _) (I J u0.a)).setCell (p:=⟨w.heap.size+1,2,U⟩) (dR _ _) (V u0.d)).setCell (p:=⟨w.heap.size+1,3,U⟩) (dR _ _) (Z ao D cap)).setCell (p:=⟨w.heap.size+1,4,U⟩) (dR _ _) (I J u0.e);have Cj:=aP _ _ 4 _ _ (I J u0.e) (aP _ _ 3 _ _ (Z ao D cap) (aP _ _ 2 _ _ (V u0.d) (aP _ _ 1 _ _ (I J u0.a) (aP _ _ 0 _ _ (I J u0.c) H))));generalize (((((w5.setCell ⟨w.heap.size+1,0,U⟩ (Value.int J u0.c)).setCell ⟨w.heap.size+1,1,U⟩ (Value.int J u0.a)).setCell ⟨w.heap.size+1,2,U⟩ (Value.string u0.d)).setCell ⟨w.heap.size+1,3,U⟩ (Value.slice ao D cap)).setCell ⟨w.heap.size+1,4,U⟩ (Value.int J u0.e))=w6 at hb6 Cj ⊢;have r0:=aq w6 _ 0 _ _ _ Cj;have r1:=aq w6 _ 1 _ _ _ Cj;have r2:=aq w6 _ 2 _ _ _ Cj;have r3:=aq w6 _ 3 _ _ _ Cj;have r4:=aq w6 _ 4 _ _ _ Cj;exact aR (v:=.agg #[I J u0.c,I J u0.a,V u0.d,Z ao D cap,I J u0.e]) (by simp[results,results155,go_sem,r0,r1,r2,r3,r4]) rfl ⟨ao,cap,rfl,hb6⟩
end
section
variable {g:Nat} {m t:ae} {mi ln:Int} {l:aC} {fo:ag} {gy nf:Nat} {bo:ag} {fZ nb:Nat} {w:X}
theorem Mr (h:fW w l fo gy nf)(c:(aZ (aO jI l)).2=9):
 Calls prog 212 #[.agg #[Q (M ⟨g,0,U⟩),V m,V t,I J mi,Z fo nf gy,I J ln,Z bo nb fZ]] w fun e w'=>gM w (bT 400 []) e w':=by
 have a:=(ar _ w).alloc (ak _) (K #[Q (M ⟨g,0,U⟩),V m,V t,I J mi,Z fo nf gy,I J ln,Z bo nb fZ] 185);have j:=rz (g:=g) (m:=m) (t:=t) (mi:=mi) (ln:=ln) (fo:=fo) (gy:=gy) (nf:=nf) (bo:=bo) (fZ:=fZ) (nb:=nb) (w:=w) (ar _ _);go_enter func212,ntmps212;go_wp2_with fail;refine(rp sj (by decide) (h.a a) (v:=(aZ (aO jI l)).1) (by rw[Bk,<-c])).mono ?_;rintro e k d;obtain⟨f,p,i,n,b⟩:=d.a a;unfold bV at b;subst b;go_wp2;exact⟨rfl,f.o⟩
theorem Of (h:fW w l fo gy nf)(C:(aZ (aO jI l)).2≠9):
 (qN (aZ (aO jI l)).1=F->Calls prog 212 #[.agg #[Q (M ⟨g,0,U⟩),V m,V t,I J mi,Z fo nf gy,I J ln,Z bo nb fZ]] w fun e w'=>gM w (bT 415 []) e w') ∧
 (qN (aZ (aO jI l)).1=true->Calls prog 212 #[.agg #[Q (M ⟨g,0,U⟩),V m,V t,I J mi,Z fo nf gy,I J ln,Z bo nb fZ]] w fun e w'=>e=Y (.tuple #[])∧Below w.heap.size w w'):=by
 have q:=(ar _ w).alloc (ak _) (K #[Q (M ⟨g,0,U⟩),V m,V t,I J mi,Z fo nf gy,I J ln,Z bo nb fZ] 185);have x0:=rz (g:=g) (m:=m) (t:=t) (mi:=mi) (ln:=ln) (fo:=fo) (gy:=gy) (nf:=nf) (bo:=bo) (fZ:=fZ) (nb:=nb) (w:=w) (ar _ _);have L:=h.f jI;generalize N:aZ (aO jI l)=r at *;obtain⟨v,c⟩:=r;simp only at L C;have s:=rk (g:=g) (m:=m) (t:=t) (mi:=mi) (ln:=ln) (bo:=bo) (fZ:=fZ) (nb:=nb) sj (by decide) (h.a q) (by rw[Bk];exact N) C;unfold sj at s;have D:∀W,Calls prog 269 #[V ⟨v.toArray⟩] W fun e w'=>tA W (dY v) e w':=fun W=>by
  have:=BN ⟨v.toArray⟩ W (by show v.toArray.size<=_;rw[cz];omega);rw[show(⟨v.toArray⟩:ae).data.toList=v from by simp] at this;exact this
 have n:∀word a code,Bp (dY v) word a code->(qN v=(word.toList==([97,112,112,108,105,99,97,116,105,111,110,47,111,102,102,115,101,116,43,111,99,116,101,116,45,115,116,114,101,97,109]:ab))):=fun word a code b=>by
  rw[iM,cR,Lib.toList_data];unfold qN;cases G:dY v with
  | inl c =>
    rw[G] at b;obtain⟨S,u,T⟩:=b;subst u;constructor
    . intro e;cases e
    . intro e;simp at e
  | inr x =>
    rw[G] at b;obtain⟨S,u,T⟩:=b;simp only[bR];rw[u];rfl
 generalize decide (c=0)=cb at *;generalize (⟨v.toArray⟩:ae)=vb at *;generalize qN v=off at *;generalize dY v=md at *;refine⟨fun p=>?_,fun p=>?_⟩
 . subst p;go_enter func212,ntmps212;go_wp2_with fail;refine s.mono ?_;rintro e y ⟨rfl,d⟩;have f:=au q d;go_wp2_with fail;refine(D y).mono ?_;rintro e z ⟨word,a,B,i,code,rfl,b,_,j⟩;have p:=(n _ _ _ b).symm;have k:=au (au f j) ((ar _ z).alloc (ak _) (K #[V word,Z B a.length i] 244));generalize a.length=np at *;go_wp2_with fail;refine(iA 415 415 rfl _).mono ?_;rintro e w9 hG;obtain⟨HG,jE,ig,n9,H⟩:=hG.a k;unfold bV at H;subst H;go_wp2;exact⟨rfl,HG.o⟩
 . subst p;go_enter func212,ntmps212;go_wp2_with fail;refine s.mono ?_;rintro e y ⟨rfl,d⟩;have f:=au q d;go_wp2_with fail;refine(D y).mono ?_;rintro e z ⟨word,a,B,i,code,rfl,b,_,j⟩;have p:=(n _ _ _ b).symm;have k:=au (au f j) ((ar _ z).alloc (ak _) (K #[V word,Z B a.length i] 244));generalize a.length=np at *;go_wp2_with fail;refine(fT 415 U 0 0 _).mono ?_;rintro e w9 ⟨rfl,hw⟩;rw[hw];go_wp2;go_end0
   exact⟨rfl,k⟩
theorem BG (f a sent x d:Int)(b:ae)(uo:ag)(un gQ:Nat)(w:X)(D:-1<=a):
 (0<=a->x≠a->Calls prog 214 #[.agg #[I J f,I J a,V b,Z uo un gQ,I J sent],I J x,I J d] w fun e w'=>gM w (bT 400 []) e w') ∧
 (a<0->(2000<x∨x<d)->Calls prog 214 #[.agg #[I J f,I J a,V b,Z uo un gQ,I J sent],I J x,I J d] w fun e w'=>gM w (bT 413 []) e w') ∧
 ((0<=a∧x=a)∨(a<0∧¬(2000<x∨x<d))->Calls prog 214 #[.agg #[I J f,I J a,V b,Z uo un gQ,I J sent],I J x,I J d] w fun e w'=>e=Y (.tuple #[])∧Below w.heap.size w w'):=by
 have i:=(ar _ w).alloc (ak _) (K #[I J f,I J a,V b,Z uo un gQ,I J sent] 92);have G:(w.alloc (K #[I J f,I J a,V b,Z uo un gQ,I J sent] 92)).cell? ⟨w.heap.size,1,U⟩=M (I J a):=World.cell?_alloc_mark w _ _ _ 1;refine⟨fun q r=>?_,fun q y=>?_,fun s=>?_⟩
 . have n:(a != -1)=true:=by rw[di];omega
   have u:(x==a)=F:=by rw[aQ];exact r
   go_enter func214,ntmps214;go_wp2_with fail;refine(iA 400 400 rfl _).mono ?_;rintro e p j;obtain⟨k,z,B,C,c⟩:=j.a i;unfold bV at c;subst c;go_wp2;exact⟨rfl,k.o⟩
 . obtain rfl:a=-1:=by omega
   by_cases H:2000<x
   . have n:decide (x<=2000)=F:=by rw[cC];omega
     go_enter func214,ntmps214;go_wp2_with fail;refine(iA 413 413 rfl _).mono ?_;rintro e p j;obtain⟨k,z,B,C,c⟩:=j.a i;unfold bV at c;subst c;go_wp2;exact⟨rfl,k.o⟩
   . have n:decide (x<=2000)=true:=by rw[bR];omega
     have u:decide (x≥d)=F:=by rw[cC];omega
     go_enter func214,ntmps214;go_wp2_with fail;refine(iA 413 413 rfl _).mono ?_;rintro e p j;obtain⟨k,z,B,C,c⟩:=j.a i;unfold bV at c;subst c;go_wp2;exact⟨rfl,k.o⟩
 . rcases s with ⟨q,rfl⟩ | ⟨q,L⟩
   . have n:(x != -1)=true:=by rw[di];omega
     have u:(x==x)=true:=by simp
     go_enter func214,ntmps214;go_wp2_with fail;refine(fT 400 U 0 0 _).mono ?_;rintro e p ⟨rfl,v⟩;rw[v];go_wp2;first | go_end0 | refine aR (results_none rfl _ _ _) rfl ?_
     exact⟨rfl,i⟩
   . obtain rfl:a=-1:=by omega
     have n:decide (x<=2000)=true:=by rw[bR];omega
     have u:decide (x≥d)=true:=by rw[bR];omega
     go_enter func214,ntmps214;go_wp2_with fail;refine(fT 413 U 0 0 _).mono ?_;rintro e p ⟨rfl,v⟩;rw[v];go_wp2;go_end0
     exact⟨rfl,i⟩
end
section
variable {g:Nat} {m t:ae} {mi ln:Int} {l:aC} {fo:ag} {gy nf:Nat} {bo:ag} {fZ nb:Nat} {w w0:X} {S:Nat->Prop} {s:av}
theorem FH (h:aS w S g s)(a b:Obj):bZ aS S w g [K #[Q (M ⟨g,0,U⟩),V m,V t,I J mi,Z fo nf gy,I J ln,Z bo nb fZ] 185 (0,0),a,b] s (fun k=>S k∧k<w.heap.size) (((w.alloc (K #[Q (M ⟨g,0,U⟩),V m,V t,I J mi,Z fo nf gy,I J ln,Z bo nb fZ] 185)).alloc a).alloc b):=by
 have c:((w.alloc (K #[Q (M ⟨g,0,U⟩),V m,V t,I J mi,Z fo nf gy,I J ln,Z bo nb fZ] 185)).alloc a).heap.size=w.heap.size+2:=by rw[bF,bF]
 exact(xt h a).y bH c (fun k e=>by rw[c];have:=e.2;omega) _
theorem bZ.oF {bs:List Obj}{S':Nat->Prop}{a:av}{W:X}{u:aL}{uo:ag}{un gQ:Nat}(h:bZ aS S w g (K #[Q (M ⟨g,0,U⟩),V m,V t,I J mi,Z fo nf gy,I J ln,Z bo nb fZ] 185 (0,0)::K #[I J u.c,I J u.a,V u.d,Z uo un gQ,I J u.e] 92 (0,0)::bs) a S' W):W.cell? ⟨w.heap.size+1,0,U⟩=M (I J u.c)∧W.cell? ⟨w.heap.size+1,1,U⟩=M (I J u.a)∧W.cell? ⟨w.heap.size+1,2,U⟩=M (V u.d)∧W.cell? ⟨w.heap.size+1,3,U⟩=M (Z uo un gQ)∧W.cell? ⟨w.heap.size+1,4,U⟩=M (I J u.e):=by
 have r:=h.H 1 rfl;exact⟨aq W _ 0 _ _ _ r,aq W _ 1 _ _ _ r,aq W _ 2 _ _ _ r,aq W _ 3 _ _ _ r,aq W _ 4 _ _ _ r⟩
theorem B3 (h:aS w S g s)(ok:aJ s)(u:aL)(uo:ag)(un gQ:Nat):
 Calls prog 158 #[.agg #[Q (M ⟨g,0,U⟩),V m,V t,I J mi,Z fo nf gy,I J ln,Z bo nb fZ],.agg #[I J u.c,I J u.a,V u.d,Z uo un gQ,I J u.e]] w fun e w'=>oT S w g (eA (ga s u.c).1,bT 204 []) e w':=by
 have c:bZ aS S w g [K #[Q (M ⟨g,0,U⟩),V m,V t,I J mi,Z fo nf gy,I J ln,Z bo nb fZ] 185 (0,0),K #[I J u.c,I J u.a,V u.d,Z uo un gQ,I J u.e] 92 (0,0),K #[I J 0,Z U 0 0,Z U 0 0] 126 (0,0)] s (fun k=>S k∧k<w.heap.size) (((w.alloc (K #[Q (M ⟨g,0,U⟩),V m,V t,I J mi,Z fo nf gy,I J ln,Z bo nb fZ] 185)).alloc (K #[I J u.c,I J u.a,V u.d,Z uo un gQ,I J u.e] 92)).alloc (K #[I J 0,Z U 0 0,Z U 0 0] 126)):=FH h _ _;have j:∀W n p,bZ aS S w g [K #[Q (M ⟨g,0,U⟩),V m,V t,I J mi,Z fo nf gy,I J ln,Z bo nb fZ] 185 (0,0),K #[I J u.c,I J u.a,V u.d,Z uo un gQ,I J u.e] 92 (0,0),K #[I J 0,Z U 0 0,Z U 0 0] 126 (0,0)] n p W->W.cell? ⟨w.heap.size,0,U⟩=M (Q (M ⟨g,0,U⟩))∧W.cell? ⟨w.heap.size,1,U⟩=M (V m)∧W.cell? ⟨w.heap.size,2,U⟩=M (V t)∧W.cell? ⟨w.heap.size,3,U⟩=M (I J mi)∧W.cell? ⟨w.heap.size,4,U⟩=M (Z fo nf gy)∧W.cell? ⟨w.heap.size,5,U⟩=M (I J ln)∧W.cell? ⟨w.heap.size,6,U⟩=M (Z bo nb fZ):=fun W n p C=>C.lH;obtain⟨D,x1,x2,x3,x4,x5,x6⟩:=j _ _ _ c;have v0:=c.oF;have f:Hid ((eA (ga s u.c).1,bT 204 [])=(eA (ga s u.c).1,bT 204 [])):=by unfold Hid;rfl
 obtain⟨a,q⟩:∃a,a=(eA (ga s u.c).1,bT 204 []):=⟨_,rfl⟩;rw[<-q];have f:=aa q;go_enter func158,ntmps158;go_wp2_with fail;refine(BP c.b ok u.c).mono ?_;rintro e w4 ⟨rfl,G,H⟩;have d:=aa (c.r G H);generalize ga s u.c=L at *;obtain⟨sa,ca⟩:=L;simp only at f d ⊢;have D:=j _ _ _ d.o;go_wp2_with fail;refine(rh d.o.b).mono ?_;rintro e r ⟨rfl,N,T⟩;have x:=d.o.mI N T;go_wp2_with fail;refine(oh 204 204 rfl [] U 0 0 r (bq.r r) rfl (by decide)).mono ?_;rintro e w9 ⟨y,z,B,rfl,lV,kM,qp⟩;obtain⟨⟨z0,z1,z2,y0,y1,y2⟩,HE⟩:=x.j bH (i:=2) rfl (b:=w.heap.size+2) (by first | rfl | omega) (st:=204) (mJ:=204) rfl lV (cq (dR _ _) x.c) kM qp;go_wp2;generalize (((w9.setCell ⟨w.heap.size+2,0,U⟩ (I J 204)).setCell ⟨w.heap.size+2,1,U⟩ (Z y B z)).setCell ⟨w.heap.size+2,2,U⟩ (Z U 0 0))=wf at *;obtain⟨q0,q1,q2,q3⟩:=HE.o;refine aR (v:=.agg #[I J 204,Z y B z,Z U 0 0]) (by simp[results,results158,go_sem,q0,q1,q2]) rfl ?_;rw[f.o];exact oT.a q3
end
section
variable {g:Nat} {m t:ae} {mi ln:Int} {l:aC} {fo:ag} {gy nf:Nat} {bo:ag} {fZ nb:Nat} {w w0:X} {S:Nat->Prop} {s:av}
theorem H9 (a:ae)(f:a.size<=2000)(h:fW w l fo gy nf):
 ((dh (aZ (aO a l))).2=F∧Hid (∀W,Below w.heap.size w W->Calls prog 213 #[.agg #[Q (M ⟨g,0,U⟩),V m,V t,I J mi,Z fo nf gy,I J ln,Z bo nb fZ],V a] W fun e w'=>gM W (bT 400 []) e w')) ∨
 (dh (aZ (aO a l))=(-1,true)∧Hid (∀W,Below w.heap.size w W->Calls prog 213 #[.agg #[Q (M ⟨g,0,U⟩),V m,V t,I J mi,Z fo nf gy,I J ln,Z bo nb fZ],V a] W fun e w'=>e=Y (.tuple #[I J 0,.bool F])∧Below W.heap.size W w')) ∨
 (∃x:Int,0<=x∧x<1000000000∧dh (aZ (aO a l))=(x,true)∧Hid (∀W,Below w.heap.size w W->Calls prog 213 #[.agg #[Q (M ⟨g,0,U⟩),V m,V t,I J mi,Z fo nf gy,I J ln,Z bo nb fZ],V a] W fun e w'=>e=Y (.tuple #[I J x,.bool true])∧Below W.heap.size W w')):=by
 by_cases c:(aZ (aO a l)).2=10
 . exact R (A ⟨GQ c,fun W d=>Ih a f (h.a d) c⟩)
 . cases b:(dh (aZ (aO a l))).2 with
   | false=>exact A ⟨rfl,fun W d=>CU a f (h.a d) b⟩
   | true =>
     have i:dh (aZ (aO a l))=((dh (aZ (aO a l))).1,true):=by rw[<-b]
     refine R (R ⟨_,GR c i,?_,i,fun W d=>Ci a f (h.a d) c i⟩);generalize aZ (aO a l)=r at *;unfold dh at b ⊢;rw[if_neg c] at b ⊢;rw[gZ] at b;exact(tP b.1).2
theorem B4 (p:jQ w0 w S)(h:aS w S g s)(ok:aJ s)(hF:fW w l fo gy nf)(body:ab)(hb:body.length=nb)(hB:aB w bo fZ body)(hnb:nb<=100000)(u:aL)(uo:ag)(un gQ:Nat)(hun:u.b.length=un)(RL:un<=2000)(hs0:-1<=u.a):
 Calls prog 157 #[.agg #[Q (M ⟨g,0,U⟩),V m,V t,I J mi,Z fo nf gy,I J ln,Z bo nb fZ],.agg #[I J u.c,I J u.a,V u.d,Z uo un gQ,I J u.e]] w fun e w'=>oT S w g (mv s u l body) e w':=by
 have T3:bZ aS S w g [K #[Q (M ⟨g,0,U⟩),V m,V t,I J mi,Z fo nf gy,I J ln,Z bo nb fZ] 185 (0,0),K #[I J u.c,I J u.a,V u.d,Z uo un gQ,I J u.e] 92 (0,0),K #[I J 0,Z U 0 0,Z U 0 0] 126 (0,0)] s (fun k=>S k∧k<w.heap.size) (((w.alloc (K #[Q (M ⟨g,0,U⟩),V m,V t,I J mi,Z fo nf gy,I J ln,Z bo nb fZ] 185)).alloc (K #[I J u.c,I J u.a,V u.d,Z uo un gQ,I J u.e] 92)).alloc (K #[I J 0,Z U 0 0,Z U 0 0] 126)):=FH h _ _;have HB3:Below w.heap.size w (((w.alloc (K #[Q (M ⟨g,0,U⟩),V m,V t,I J mi,Z fo nf gy,I J ln,Z bo nb fZ] 185)).alloc (K #[I J u.c,I J u.a,V u.d,Z uo un gQ,I J u.e] 92)).alloc (K #[I J 0,Z U 0 0,Z U 0 0] 126)):=au (au ((ar _ w).alloc (ak _) _) ((ar _ _).alloc (ak _) _)) ((ar _ _).alloc (ak _) _);have HC:∀W s' S',bZ aS S w g [K #[Q (M ⟨g,0,U⟩),V m,V t,I J mi,Z fo nf gy,I J ln,Z bo nb fZ] 185 (0,0),K #[I J u.c,I J u.a,V u.d,Z uo un gQ,I J u.e] 92 (0,0),K #[I J 0,Z U 0 0,Z U 0 0] 126 (0,0)] s' S' W->W.cell? ⟨w.heap.size,0,U⟩=M (Q (M ⟨g,0,U⟩))∧W.cell? ⟨w.heap.size,1,U⟩=M (V m)∧W.cell? ⟨w.heap.size,2,U⟩=M (V t)∧W.cell? ⟨w.heap.size,3,U⟩=M (I J mi)∧W.cell? ⟨w.heap.size,4,U⟩=M (Z fo nf gy)∧W.cell? ⟨w.heap.size,5,U⟩=M (I J ln)∧W.cell? ⟨w.heap.size,6,U⟩=M (Z bo nb fZ):=fun W s' S' hW=>hW.lH;have HU:∀W s' S',bZ aS S w g [K #[Q (M ⟨g,0,U⟩),V m,V t,I J mi,Z fo nf gy,I J ln,Z bo nb fZ] 185 (0,0),K #[I J u.c,I J u.a,V u.d,Z uo un gQ,I J u.e] 92 (0,0),K #[I J 0,Z U 0 0,Z U 0 0] 126 (0,0)] s' S' W->W.cell? ⟨w.heap.size+1,0,U⟩=M (I J u.c)∧W.cell? ⟨w.heap.size+1,1,U⟩=M (I J u.a)∧W.cell? ⟨w.heap.size+1,2,U⟩=M (V u.d)∧W.cell? ⟨w.heap.size+1,3,U⟩=M (Z uo un gQ)∧W.cell? ⟨w.heap.size+1,4,U⟩=M (I J u.e):=fun W s' S' hW=>hW.oF;obtain⟨N,T,x2,x3,x4,x5,x6⟩:=HC _ _ _ T3;obtain⟨v0,v1,v2,v3,v4⟩:=HU _ _ _ T3;have HF:=hF;have su:=aa ok;have Dl:=aa p
 have yH:∀W,Below w.heap.size w W->aB W bo fZ body:=fun W hW=>hB.a hW;have hN1:=H9 (g:=g) (m:=m) (t:=t) (mi:=mi) (ln:=ln) (bo:=bo) (fZ:=fZ) (nb:=nb) dp (by decide) hF;have hN2:=H9 (g:=g) (m:=m) (t:=t) (mi:=mi) (ln:=ln) (bo:=bo) (fZ:=fZ) (nb:=nb) gB (by decide) hF;rw[PY] at hN1;rw[uZ] at hN2;unfold dp at hN1;unfold gB at hN2;have V4:∀x W,0<=u.a->x≠u.a->Calls prog 214 #[.agg #[I J u.c,I J u.a,V u.d,Z uo un gQ,I J u.e],I J x,I J ((un:Int)+nb)] W fun e w'=>gM W (bT 400 []) e w':=fun x W=>(BG u.c u.a u.e x ((un:Int)+nb) u.d uo un gQ W hs0).1;have HS2:∀x W,u.a<0->(2000<x∨x<(un:Int)+nb)->Calls prog 214 #[.agg #[I J u.c,I J u.a,V u.d,Z uo un gQ,I J u.e],I J x,I J ((un:Int)+nb)] W fun e w'=>gM W (bT 413 []) e w':=fun x W=>(BG u.c u.a u.e x ((un:Int)+nb) u.d uo un gQ W hs0).2.1;have BZ:∀x W,(0<=u.a∧x=u.a)∨(u.a<0∧¬(2000<x∨x<(un:Int)+nb))->Calls prog 214 #[.agg #[I J u.c,I J u.a,V u.d,Z uo un gQ,I J u.e],I J x,I J ((un:Int)+nb)] W fun e w'=>e=Y (.tuple #[])∧Below W.heap.size W w':=fun x W=>(BG u.c u.a u.e x ((un:Int)+nb) u.d uo un gQ W hs0).2.2;obtain⟨aaJ,hR⟩:∃aaJ,aaJ=mv s u l body:=⟨_,rfl⟩;rw[<-hR];unfold mv at hR;rw[hun,hb] at hR;have a:=aa hR;go_enter func157,ntmps157;by_cases hc9:(aZ (aO jI l)).2=9
 . rw[if_pos hc9] at a;have HM:=Mr (g:=g) (m:=m) (t:=t) (mi:=mi) (ln:=ln) (bo:=bo) (fZ:=fZ) (nb:=nb) (HF.a HB3) hc9;go_wp2_with fail;refine(HM).mono ?_;rintro e C n;obtain⟨f,q,r,z,d⟩:=T3.f n;unfold bV at d;subst d;go_wp2;exact⟨rfl,by rw[a.o];exact f.o⟩
 rw[if_neg hc9] at a;obtain⟨hm1,hm2⟩:=Of (g:=g) (m:=m) (t:=t) (mi:=mi) (ln:=ln) (bo:=bo) (fZ:=fZ) (nb:=nb) (HF.a HB3) hc9;cases hoff:qN (aZ (aO jI l)).1 with
 | false =>
   rw[if_pos hoff] at a;have HM:=hm1 hoff;go_wp2_with fail;refine(HM).mono ?_;rintro e C n;obtain⟨f,q,r,z,d⟩:=T3.f n;unfold bV at d;subst d;go_wp2;exact⟨rfl,by rw[a.o];exact f.o⟩
 | true =>
 rw[if_neg (by rw[hoff];simp)] at a;have HM:=hm2 hoff;go_wp2_with fail;refine(HM).mono ?_;rintro e w4 ⟨rfl,c⟩;have jL:=au HB3 c;have H4:=T3.a bH c;obtain⟨N,T,x2,x3,x4,x5,x6⟩:=HC _ _ _ H4;obtain⟨v0,v1,v2,v3,v4⟩:=HU _ _ _ H4;rcases hN1 with ⟨hx,HN⟩ | ⟨hx,HN⟩ | ⟨x,hx0,hx1,hx,HN⟩
 . rw[if_pos (A hx)] at a;go_wp2_with fail;refine(HN.o _ jL).mono ?_;rintro e C n;obtain⟨f,q,r,z,d⟩:=H4.f n;unfold bV at d;subst d;go_wp2;exact⟨rfl,by rw[a.o];exact f.o⟩
 . rw[if_pos (R (by rw[hx];decide))] at a;go_wp2_with fail;refine(HN.o _ jL).mono ?_;rintro e w5 ⟨rfl,c⟩;have oC:=au jL c;have H5:=H4.a bH c;obtain⟨N,T,x2,x3,x4,x5,x6⟩:=HC _ _ _ H5;obtain⟨v0,v1,v2,v3,v4⟩:=HU _ _ _ H5;go_wp2_with fail;refine(iA 400 400 rfl _).mono ?_;rintro e C n;obtain⟨f,q,r,z,d⟩:=H5.f n;unfold bV at d;subst d;go_wp2;exact⟨rfl,by rw[a.o];exact f.o⟩
 rw[if_neg (by rw[hx];exact fun e=>e.elim (fun e=>by cases e) (fun e=>absurd e (by show ¬x<0;omega)))] at a;rw[hx] at a;simp only at a;go_wp2_with fail;refine(HN.o _ jL).mono ?_;rintro e w5 ⟨rfl,c⟩;have oC:=au jL c;have H5:=H4.a bH c;obtain⟨N,T,x2,x3,x4,x5,x6⟩:=HC _ _ _ H5;obtain⟨v0,v1,v2,v3,v4⟩:=HU _ _ _ H5;go_wp2_with fail;refine(fT 400 U 0 0 _).mono ?_;rintro e wq ⟨rfl,c⟩;rw[c];by_cases hxu:x=(un:Int)
 case neg =>
  rw[if_pos hxu] at a;have tx:(x==(un:Int))=F:=by rw[aQ];exact hxu
  go_wp2_with fail;refine(iA 409 409 rfl _).mono ?_;rintro e C n;obtain⟨f,q,r,z,d⟩:=H5.f n;unfold bV at d;subst d;go_wp2;exact⟨rfl,by rw[a.o];exact f.o⟩
 rw[if_neg (fun e=>e hxu)] at a;subst hxu;go_wp2_with fail;refine(fT 409 U 0 0 _).mono ?_;rintro e wq ⟨rfl,c⟩;rw[c];rcases hN2 with ⟨hy,HN⟩ | ⟨hy,HN⟩ | ⟨y,hy0,hy1,hy,HN⟩
 . rw[if_pos (A hy)] at a;go_wp2_with fail;refine(HN.o _ oC).mono ?_;rintro e C n;obtain⟨f,q,r,z,d⟩:=H5.f n;unfold bV at d;subst d;go_wp2;exact⟨rfl,by rw[a.o];exact f.o⟩
 . have L:pG u l<->(0<=(-1:Int)∧u.a<0):=by unfold pG;rw[hy]
   rw[hy] at a;simp only at a;rw[if_neg (fun e=>e.elim (fun e=>by cases e) (fun e=>by have:=e.1;omega)),if_neg (fun e=>by have:=(L.1 e.1).1;omega)] at a;go_wp2_with fail;refine(HN.o _ oC).mono ?_;rintro e w6 ⟨rfl,c⟩;have uf:=au oC c;have H6:=H5.a bH c;obtain⟨N,T,x2,x3,x4,x5,x6⟩:=HC _ _ _ H6;obtain⟨v0,v1,v2,v3,v4⟩:=HU _ _ _ H6;obtain⟨G,JY⟩:∃b,(decide ((0:Int)<=(nb:Int)+60)&&decide ((nb:Int)+60<=100000-(s.a.length:Int)))=b:=⟨_,rfl⟩;have eR:G=F<->100000<s.a.length+(nb+60):=by
    rw[<-JY,pO,cC,cC];omega
   have U8:=yo H6.b ((nb:Int)+60);rw[JY] at U8;go_wp2_with fail;refine U8.mono ?_;rintro e wq ⟨rfl,c⟩;rw[c];cases G with
   | false =>
     rw[if_pos (eR.1 rfl)] at a;go_wp2_with fail;refine(iA 507 507 rfl _).mono ?_;rintro e C n;obtain⟨f,q,r,z,d⟩:=H6.f n;unfold bV at d;subst d;go_wp2;exact⟨rfl,by rw[a.o];exact f.o⟩
   | true =>
     rw[if_neg (fun e=>by have:=eR.2 e;cases this)] at a;go_wp2_with fail;refine(fT 507 U 0 0 _).mono ?_;rintro e wq ⟨rfl,c⟩;rw[c];have VT:=yf H6.b su.o u.c (un:Int) bo nb fZ body (yH _ uf) hb (by omega);have JZ:(cK s u.c (un:Int) body).2≠0->(cK s u.c (un:Int) body).1=s:=fun e=>by unfold cK at e ⊢;exact pE e
     have HOa:aJ (cK s u.c (un:Int) body).1:=su.o.a _ _ _;go_wp2_with fail;refine VT.mono ?_;rintro e w20 ⟨rfl,H,hT⟩;have B:=H6.r H hT;generalize cK s u.c (un:Int) body=ra at *;obtain⟨sa,ca⟩:=ra;simp only at a JZ B HOa ⊢;obtain⟨N,T,x2,x3,x4,x5,x6⟩:=HC _ _ _ B;obtain⟨v0,v1,v2,v3,v4⟩:=HU _ _ _ B;by_cases j:ca=0
     . subst j;rw[if_neg (by simp)] at a;go_wp2_with fail;refine(yd _).mono ?_;rintro e wq ⟨rfl,c⟩;rw[c];rw[if_neg (fun e=>by have:=(L.1 e).1;omega)] at a;have Jz:=rh B.b;go_wp2_with fail;refine Jz.mono ?_;rintro e w22 ⟨rfl,vH,CK⟩;have D:=B.mI vH CK;have IQ:=tf dp (un+nb) ((un:Int)+nb) (by omega) (by omega) w22 (D.G Dl.o);unfold dp at IQ;generalize eL (un+nb)=db at *;go_wp2_with fail;refine IQ.mono ?_;rintro e YJ ⟨rfl,c⟩;have YK:=(D.a bH c).a bH ((ar _ YJ).alloc (ak _) (K #[V dp,V db] 148));have MR:=oh 204 204 rfl [(dp,db)] (M ⟨YJ.heap.size,0,U⟩) 1 1 _ (bq.j YJ #[V dp,V db] 1 148 (0,0)) rfl (by decide);unfold dp at MR YK;go_wp2_with fail;refine MR.mono ?_;rintro e C ⟨q,r,z,rfl,lV,kM,qp⟩;obtain⟨⟨z0,z1,z2,y0,y1,y2⟩,f⟩:=YK.j bH (i:=2) rfl (b:=w.heap.size+2) (by first | rfl | omega) (st:=204) (mJ:=204) rfl lV (cq (dR _ _) YK.c) kM qp;go_wp2;generalize (((C.setCell ⟨w.heap.size+2,0,U⟩ (I J 204)).setCell ⟨w.heap.size+2,1,U⟩ (Z q z r)).setCell ⟨w.heap.size+2,2,U⟩ (Z U 0 0))=wf at *;obtain⟨q0,q1,q2,q3⟩:=f.o;refine aR (v:=.agg #[I J 204,Z q z r,Z U 0 0]) (by simp[results,results157,go_sem,q0,q1,q2]) rfl ?_;rw[a.o];exact oT.a q3
     . rw[if_pos j] at a;have hsa:=JZ j;subst hsa;have HNd:=yj ca j w20;go_wp2_with fail;refine(HNd).mono ?_;rintro e C n;obtain⟨f,q,r,z,d⟩:=B.f n;unfold bV at d;subst d;go_wp2;exact⟨rfl,by rw[a.o];exact f.o⟩
 . have L:pG u l<->(0<=y∧u.a<0):=by unfold pG;rw[hy]
   rw[hy] at a;simp only at a;go_wp2_with fail;refine(HN.o _ oC).mono ?_;rintro e w6 ⟨rfl,c⟩;have uf:=au oC c;have H6:=H5.a bH c;obtain⟨N,T,x2,x3,x4,x5,x6⟩:=HC _ _ _ H6;obtain⟨v0,v1,v2,v3,v4⟩:=HU _ _ _ H6;by_cases hsz:u.a<0
   . rw[if_neg (fun e=>e.elim (fun e=>by cases e) (fun e=>by have:=e.2.1;omega))] at a;by_cases hbad:2000<y∨y<(un:Int)+nb
     . rw[if_pos ⟨L.2 ⟨hy0,hsz⟩,by simpa using hbad⟩] at a;have HQ:=HS2 y w6 hsz hbad;go_wp2_with fail;refine(HQ).mono ?_;rintro e C n;obtain⟨f,q,r,z,d⟩:=H6.f n;unfold bV at d;subst d;go_wp2;exact⟨rfl,by rw[a.o];exact f.o⟩
     . rw[if_neg (fun e=>hbad (by simpa using e.2))] at a;have HQ:=BZ y w6 (R ⟨hsz,hbad⟩);go_wp2_with fail;refine(HQ).mono ?_;rintro e w7 ⟨rfl,c⟩;have Qi:=au uf c;have H7:=H6.a bH c;obtain⟨N,T,x2,x3,x4,x5,x6⟩:=HC _ _ _ H7;obtain⟨v0,v1,v2,v3,v4⟩:=HU _ _ _ H7;obtain⟨G,JY⟩:∃b,(decide ((0:Int)<=(nb:Int)+60)&&decide ((nb:Int)+60<=100000-(s.a.length:Int)))=b:=⟨_,rfl⟩;have eR:G=F<->100000<s.a.length+(nb+60):=by
        rw[<-JY,pO,cC,cC];omega
       have U8:=yo H7.b ((nb:Int)+60);rw[JY] at U8;go_wp2_with fail;refine U8.mono ?_;rintro e wq ⟨rfl,c⟩;rw[c];cases G with
       | false =>
         rw[if_pos (eR.1 rfl)] at a;go_wp2_with fail;refine(iA 507 507 rfl _).mono ?_;rintro e C n;obtain⟨f,q,r,z,d⟩:=H7.f n;unfold bV at d;subst d;go_wp2;exact⟨rfl,by rw[a.o];exact f.o⟩
       | true =>
         rw[if_neg (fun e=>by have:=eR.2 e;cases this)] at a;go_wp2_with fail;refine(fT 507 U 0 0 _).mono ?_;rintro e wq ⟨rfl,c⟩;rw[c];have VT:=yf H7.b su.o u.c (un:Int) bo nb fZ body (yH _ Qi) hb (by omega);have JZ:(cK s u.c (un:Int) body).2≠0->(cK s u.c (un:Int) body).1=s:=fun e=>by unfold cK at e ⊢;exact pE e
         have HOa:aJ (cK s u.c (un:Int) body).1:=su.o.a _ _ _;go_wp2_with fail;refine VT.mono ?_;rintro e w20 ⟨rfl,H,hT⟩;have B:=H7.r H hT;generalize cK s u.c (un:Int) body=ra at *;obtain⟨sa,ca⟩:=ra;simp only at a JZ B HOa ⊢;obtain⟨N,T,x2,x3,x4,x5,x6⟩:=HC _ _ _ B;obtain⟨v0,v1,v2,v3,v4⟩:=HU _ _ _ B;by_cases j:ca=0
         . subst j;rw[if_neg (by simp)] at a;go_wp2_with fail;refine(yd _).mono ?_;rintro e wq ⟨rfl,c⟩;rw[c];rw[if_pos (L.2 ⟨hy0,hsz⟩)] at a;have t1:(u.a==-1)=true:=by rw[cR];omega
           have HDc:=KR B.b HOa u.c y;go_wp2_with fail;refine HDc.mono ?_;rintro e w21 ⟨rfl,H,hT⟩;have H21:=B.r H hT;generalize qI sa u.c y=rd at *;obtain⟨sd,cd⟩:=rd;simp only at a H21 ⊢;obtain⟨N,T,x2,x3,x4,x5,x6⟩:=HC _ _ _ H21;obtain⟨v0,v1,v2,v3,v4⟩:=HU _ _ _ H21;have Jz:=rh H21.b;go_wp2_with fail;refine Jz.mono ?_;rintro e w22 ⟨rfl,vH,CK⟩;have D:=H21.mI vH CK;have IQ:=tf dp (un+nb) ((un:Int)+nb) (by omega) (by omega) w22 (D.G Dl.o);unfold dp at IQ;generalize eL (un+nb)=db at *;go_wp2_with fail;refine IQ.mono ?_;rintro e YJ ⟨rfl,c⟩;have YK:=(D.a bH c).a bH ((ar _ YJ).alloc (ak _) (K #[V dp,V db] 148));have MR:=oh 204 204 rfl [(dp,db)] (M ⟨YJ.heap.size,0,U⟩) 1 1 _ (bq.j YJ #[V dp,V db] 1 148 (0,0)) rfl (by decide);unfold dp at MR YK;go_wp2_with fail;refine MR.mono ?_;rintro e C ⟨q,r,z,rfl,lV,kM,qp⟩;obtain⟨⟨z0,z1,z2,y0,y1,y2⟩,f⟩:=YK.j bH (i:=2) rfl (b:=w.heap.size+2) (by first | rfl | omega) (st:=204) (mJ:=204) rfl lV (cq (dR _ _) YK.c) kM qp;go_wp2;generalize (((C.setCell ⟨w.heap.size+2,0,U⟩ (I J 204)).setCell ⟨w.heap.size+2,1,U⟩ (Z q z r)).setCell ⟨w.heap.size+2,2,U⟩ (Z U 0 0))=wf at *;obtain⟨q0,q1,q2,q3⟩:=f.o;refine aR (v:=.agg #[I J 204,Z q z r,Z U 0 0]) (by simp[results,results157,go_sem,q0,q1,q2]) rfl ?_;rw[a.o];exact oT.a q3
         . rw[if_pos j] at a;have hsa:=JZ j;subst hsa;have HNd:=yj ca j w20;clear j JZ;go_wp2_with fail;refine(HNd).mono ?_;rintro e C n;obtain⟨f,q,r,z,d⟩:=B.f n;unfold bV at d;subst d;clear n;go_wp2;exact⟨rfl,by rw[a.o];exact f.o⟩
   . have hsz0:0<=u.a:=by omega
     by_cases hne:y=u.a
     . rw[if_neg (fun e=>e.elim (fun e=>by cases e) (fun e=>e.2.2 hne)),if_neg (fun e=>hsz (L.1 e.1).2)] at a;have HQ:=BZ y w6 (A ⟨hsz0,hne⟩);clear hne;go_wp2_with fail;refine(HQ).mono ?_;rintro e w7 ⟨rfl,c⟩;have Qi:=au uf c;have H7:=H6.a bH c;clear c H6 uf N T x2 x3 x4 x5 x6 v0 v1 v2 v3 v4;obtain⟨N,T,x2,x3,x4,x5,x6⟩:=HC _ _ _ H7;obtain⟨v0,v1,v2,v3,v4⟩:=HU _ _ _ H7;clear HQ;obtain⟨G,JY⟩:∃b,(decide ((0:Int)<=(nb:Int)+60)&&decide ((nb:Int)+60<=100000-(s.a.length:Int)))=b:=⟨_,rfl⟩;have eR:G=F<->100000<s.a.length+(nb+60):=by
        rw[<-JY,pO,cC,cC];omega
       have U8:=yo H7.b ((nb:Int)+60);rw[JY] at U8;clear JY;go_wp2_with fail;refine U8.mono ?_;rintro e wq ⟨rfl,c⟩;rw[c];clear c;clear U8;cases G with
       | false =>
         rw[if_pos (eR.1 rfl)] at a;go_wp2_with fail;refine(iA 507 507 rfl _).mono ?_;rintro e C n;obtain⟨f,q,r,z,d⟩:=H7.f n;unfold bV at d;subst d;clear n;go_wp2;exact⟨rfl,by rw[a.o];exact f.o⟩
       | true =>
         rw[if_neg (fun e=>by have:=eR.2 e;cases this)] at a;clear eR;go_wp2_with fail;refine(fT 507 U 0 0 _).mono ?_;rintro e wq ⟨rfl,c⟩;rw[c];clear c;have VT:=yf H7.b su.o u.c (un:Int) bo nb fZ body (yH _ Qi) hb (by omega);have JZ:(cK s u.c (un:Int) body).2≠0->(cK s u.c (un:Int) body).1=s:=fun e=>by unfold cK at e ⊢;exact pE e
         have HOa:aJ (cK s u.c (un:Int) body).1:=su.o.a _ _ _;go_wp2_with fail;refine VT.mono ?_;rintro e w20 ⟨rfl,H,hT⟩;have B:=H7.r H hT;clear H hT VT H7 Qi N T x2 x3 x4 x5 x6 v0 v1 v2 v3 v4;generalize cK s u.c (un:Int) body=ra at *;obtain⟨sa,ca⟩:=ra;simp only at a JZ B HOa ⊢;obtain⟨N,T,x2,x3,x4,x5,x6⟩:=HC _ _ _ B;obtain⟨v0,v1,v2,v3,v4⟩:=HU _ _ _ B;by_cases j:ca=0
         . subst j;rw[if_neg (by simp)] at a;clear JZ;go_wp2_with fail;refine(yd _).mono ?_;rintro e wq ⟨rfl,c⟩;rw[c];clear c;have t1:(u.a==-1)=F:=by rw[aQ];omega
           rw[if_neg (fun e=>by have:=(L.1 e).2;omega)] at a;have Jz:=rh B.b;go_wp2_with fail;refine Jz.mono ?_;rintro e w22 ⟨rfl,vH,CK⟩;have D:=B.mI vH CK;have IQ:=tf dp (un+nb) ((un:Int)+nb) (by omega) (by omega) w22 (D.G Dl.o);unfold dp at IQ;generalize eL (un+nb)=db at *;clear vH CK Jz B N T x2 x3 x4 x5 x6 v0 v1 v2 v3 v4;go_wp2_with fail;refine IQ.mono ?_;rintro e YJ ⟨rfl,c⟩;have YK:=(D.a bH c).a bH ((ar _ YJ).alloc (ak _) (K #[V dp,V db] 148));have MR:=oh 204 204 rfl [(dp,db)] (M ⟨YJ.heap.size,0,U⟩) 1 1 _ (bq.j YJ #[V dp,V db] 1 148 (0,0)) rfl (by decide);unfold dp at MR YK;clear c IQ D;go_wp2_with fail;refine MR.mono ?_;rintro e C ⟨q,r,z,rfl,lV,kM,qp⟩;obtain⟨⟨z0,z1,z2,y0,y1,y2⟩,f⟩:=YK.j bH (i:=2) rfl (b:=w.heap.size+2) (by first | rfl | omega) (st:=204) (mJ:=204) rfl lV (cq (dR _ _) YK.c) kM qp;clear lV kM qp;go_wp2;generalize (((C.setCell ⟨w.heap.size+2,0,U⟩ (I J 204)).setCell ⟨w.heap.size+2,1,U⟩ (Z q z r)).setCell ⟨w.heap.size+2,2,U⟩ (Z U 0 0))=wf at *;obtain⟨q0,q1,q2,q3⟩:=f.o;refine aR (v:=.agg #[I J 204,Z q z r,Z U 0 0]) (by simp[results,results157,go_sem,q0,q1,q2]) rfl ?_;rw[a.o];exact oT.a q3
         . rw[if_pos j] at a;have hsa:=JZ j;subst hsa;have HNd:=yj ca j w20;clear j JZ;go_wp2_with fail;refine(HNd).mono ?_;rintro e C n;obtain⟨f,q,r,z,d⟩:=B.f n;unfold bV at d;subst d;clear n;go_wp2;exact⟨rfl,by rw[a.o];exact f.o⟩
     . rw[if_pos (R ⟨hy0,hsz0,hne⟩)] at a;have HQ:=V4 y w6 hsz0 hne;clear hne;go_wp2_with fail;refine(HQ).mono ?_;rintro e C n;obtain⟨f,q,r,z,d⟩:=H6.f n;unfold bV at d;subst d;clear n;go_wp2;exact⟨rfl,by rw[a.o];exact f.o⟩
end
def mQ:nt:=fun _ _ _ _=>True
theorem hJ:oY mQ:=⟨fun _ _ _=>trivial,fun _ _=>trivial⟩
def jk:Nat->Prop:=fun _=>False
theorem vW.a {w w':X}{g:Nat}{s:av}{r:iX}{e:Ending}(h:vW mQ jk w g (s,r) e w'):uu w r e w':=by
 obtain⟨⟨b,a,n,c,d,f⟩,_,i⟩:=h;exact⟨b,a,n,c,d,f,i.below (fun _ e=>e.elim) (ak _)⟩
theorem G6 (w:X)(a:Obj):bZ mQ jk w 0 [a] iW (fun k=>jk k∧k<w.heap.size) (w.alloc a) :=
 (bZ.jY (O:=mQ) (S:=jk) (g:=0) (s:=iW) hJ trivial).y hJ rfl (fun _ e=>e.1.elim) _
theorem Tq (w:X)(a b:Obj):bZ mQ jk w 0 [a,b] iW (fun k=>jk k∧k<w.heap.size) ((w.alloc a).alloc b):=by
 have c:(w.alloc a).heap.size=w.heap.size+1:=bF ..;exact(G6 w a).y hJ c (fun _ e=>e.1.elim) _
theorem Lt (w:X)(q:dj w):Calls prog 150 #[] w fun e w'=>uu w (bT 204 [(eb,cG),(nj,nr),(nV,nW)]) e w':=by
 have s:=G6 w (K #[I J 0,Z U 0 0,Z U 0 0] 126);have c:=(ar _ w).alloc (ak _) (K #[I J 0,Z U 0 0,Z U 0 0] 126);go_enter func150,ntmps150;go_wp2_with fail;refine(ny eb cG (w.alloc (K #[I J 0,Z U 0 0,Z U 0 0] 126))).mono ?_;rintro e t ⟨rfl,a⟩;have u:=s.a hJ a;have d:=au c a;have f:=tf nj 2000 2000 rfl (by decide) t (q.a d);rw[show eL 2000=nr from by decide +kernel] at f;unfold nj nr at f;go_wp2_with fail;refine f.mono ?_;rintro e x ⟨rfl,g⟩;have y:=u.a hJ g;go_wp2_with fail;refine(ny nV nW x).mono ?_;rintro e j ⟨rfl,k⟩;have l:=(y.a hJ k).a hJ ((ar _ j).alloc (ak _) (K #[V eb,V cG,V nj,V nr,V nV,V nW] 148));unfold eb cG nj nr nV nW at l;go_wp2_with fail;refine(oh 204 204 rfl [(eb,cG),(nj,nr),(nV,nW)] (M ⟨j.heap.size,0,U⟩) 3 3 _ (bq.j j #[V eb,V cG,V nj,V nr,V nV,V nW] 3 148 (0,0)) rfl (by decide)).mono ?_;rintro e z ⟨m,n,p,rfl,B,C,D⟩;obtain⟨⟨T,W,z2,y0,y1,y2⟩,G⟩:=l.j hJ (i:=0) rfl (b:=w.heap.size) (by first | rfl | omega) (st:=204) (mJ:=204) rfl B (cq (dR _ _) l.c) C D;go_wp2;generalize (((z.setCell ⟨w.heap.size,0,U⟩ (I J 204)).setCell ⟨w.heap.size,1,U⟩ (Z m p n)).setCell ⟨w.heap.size,2,U⟩ (Z U 0 0))=wf at *;obtain⟨H,L,N,S⟩:=G.o;refine aR (v:=.agg #[I J 204,Z m p n,Z U 0 0]) (by simp[results,results150,go_sem,H,L,N]) rfl ?_;exact vW.a (r:=bT 204 [(eb,cG),(nj,nr),(nV,nW)]) S
theorem Ia (u:aL)(uo:ag)(un gQ:Nat)(hun:u.b.length=un)(hs0:-1<=u.a)(hs1:u.a<=2000)(RL:un<=2000)(w:X)(hP:dj w):
 Calls prog 156 #[.agg #[I J u.c,I J u.a,V u.d,Z uo un gQ,I J u.e]] w fun e w'=>uu w (jJ u) e w':=by
 have T2:=Tq w (K #[I J u.c,I J u.a,V u.d,Z uo un gQ,I J u.e] 92) (K #[I J 0,Z U 0 0,Z U 0 0] 126);have HC:∀W s' S',bZ mQ jk w 0 [K #[I J u.c,I J u.a,V u.d,Z uo un gQ,I J u.e] 92 (0,0),K #[I J 0,Z U 0 0,Z U 0 0] 126 (0,0)] s' S' W->W.cell? ⟨w.heap.size,1,U⟩=M (I J u.a)∧W.cell? ⟨w.heap.size,2,U⟩=M (V u.d)∧W.cell? ⟨w.heap.size,3,U⟩=M (Z uo un gQ):=fun W s' S' j=>by
  have r:=j.H 0 rfl;exact⟨aq W _ 1 _ _ _ r,aq W _ 2 _ _ _ r,aq W _ 3 _ _ _ r⟩
 obtain⟨x1,x2,x3⟩:=HC _ _ _ T2;have HB2:Below w.heap.size w ((w.alloc (K #[I J u.c,I J u.a,V u.d,Z uo un gQ,I J u.e] 92)).alloc (K #[I J 0,Z U 0 0,Z U 0 0] 126)):=au ((ar _ w).alloc (ak _) _) ((ar _ _).alloc (ak _) _);have Dl:=aa hP;have HUn:=aa hun;obtain⟨z,hcnt,l⟩:∃z:ae,Hid (∀W,Below w.heap.size w W->Calls prog 205 #[V gB,I J u.a] W fun e w'=>e=Y (.agg #[V gB,V z])∧Below W.heap.size W w')∧(0<=u.a->z=eL u.a.toNat):=by
  by_cases h0:0<=u.a
  . exact⟨_,fun W j=>tf gB u.a.toNat u.a (by omega) (by omega) W (hP.a j),fun _=>rfl⟩
  . have e1:u.a=-1:=by omega
    rw[e1];refine⟨⟨(Lib.itoa (-1)).toArray⟩,fun W j=>?_,fun e=>absurd e (by omega)⟩;refine Et gB _ (-1) W (fun W2 hW2=>?_);refine(Any.strconv_Itoa Tryz.lays171 (-1) (by decide) (by decide) W2 (hP.a (au j hW2))).mono ?_;rintro e w' ⟨he,k,os,rfl⟩;exact⟨he,Lib.below_grow _ W2 (ak _) k os⟩
 have HC1:=aa (hcnt.out _ HB2);unfold gB at HC1;obtain⟨f,g,d⟩:∃f g:ae,(f,g)=(if u.a<0 then (gC,kV) else (gB,eL u.a.toNat)):=⟨_,_,rfl⟩;obtain⟨B,hR⟩:∃B,B=jJ u:=⟨_,rfl⟩;rw[<-hR];have HD:Hid (B=bT 200 ((dp,eL un)::(f,g)::(km,kn)::(if u.d.size=0 then [] else [(ir,u.d)]))):=by
  unfold Hid;rw[hR];unfold jJ;rw[<-d,HUn.o]
 have U7:(f,g)=(if u.a<0 then (gC,kV) else (gB,eL u.a.toNat)):=d;have HSv:=aa l;go_enter func156,ntmps156;go_wp2_with fail;refine HC1.o.mono ?_;rintro e C ⟨rfl,hw3⟩;have H3:=T2.a hJ hw3;have HB3:=au HB2 hw3;have hb4:=(ar _ C).alloc (ak _) (K #[V gB,V z] 148);have H4:=H3.a hJ hb4;have jL:=au HB3 hb4;have m:(C.alloc (K #[V gB,V z] 148)).heap[C.heap.size]? = M (K #[V gB,V z] 148 (0,0)):=aX C _;have HZ4:Hid (w.heap.size+2<=C.heap.size):=H3.c;obtain⟨x1,x2,x3⟩:=HC _ _ _ H4;unfold gB at H4 jL m;unfold gB at x1 x2 x3;go_upto_region 2 with fail
 generalize (C.alloc (K #[V ⟨#[85,112,108,111,97,100,45,76,101,110,103,116,104]⟩,V z] 148))=w4 at *;generalize C.heap.size=c at *;obtain⟨bn,hbn⟩:∃b,(u.a==-1)=b:=⟨_,rfl⟩;have D:Hid (bn=true<->u.a<0):=by
  unfold Hid;rw[<-hbn,cR];omega
 go_upto_if 10 with fail
 go_cut [11] (fun _ G=>bZ mQ jk w 0 [K #[I J u.c,I J u.a,V u.d,Z uo un gQ,I J u.e] 92 (0,0),K #[I J 0,Z U 0 0,Z U 0 0] 126 (0,0)] iW (fun k=>jk k∧k<w.heap.size) G∧Below w.heap.size w G∧G.heap[c]? = M (K #[V f,V g] 148 (0,0)))
 case first =>
  cases bn with
  | true =>
    have d:=U7;rw[if_pos (D.o.1 rfl)] at d;injection d with H L;subst H;subst L;go_wp2_with fail;refine(ny gC kV w4).mono ?_;rintro e y ⟨rfl,DI⟩;have oD:=(DI.block c (bO.1 m).1).trans m;have c0:=aq y _ 0 _ _ _ oD;have c1:=aq y _ 1 _ _ _ oD
    have y0:=aN y _ 0 _ _ oD;have y1:=aN y _ 1 _ _ oD
    simp at c0 c1;have hTk:=jr c [V gC,V kV] 0 y;have HX:bZ mQ jk w 0 [K #[I J u.c,I J u.a,V u.d,Z uo un gQ,I J u.e] 92 (0,0),K #[I J 0,Z U 0 0,Z U 0 0] 126 (0,0)] iW (fun k=>jk k∧k<w.heap.size) ((y.setCell ⟨c,0,U⟩ (V gC)).setCell ⟨c,1,U⟩ (V kV))∧Below w.heap.size w ((y.setCell ⟨c,0,U⟩ (V gC)).setCell ⟨c,1,U⟩ (V kV))∧((y.setCell ⟨c,0,U⟩ (V gC)).setCell ⟨c,1,U⟩ (V kV)).heap[c]? = M (K #[V gC,V kV] 148 (0,0)):=by
     have hz:=HZ4.o;have hb:=au jL DI;exact⟨(H4.a hJ DI).nD hJ hTk hz (fun e=>e.1.elim),(hb.setCell (p:=⟨c,0,U⟩) (by show w.heap.size<=c;omega) _).setCell (p:=⟨c,1,U⟩) (by show w.heap.size<=c;omega) _,aP _ _ 1 _ _ (V kV) (aP _ _ 0 _ _ (V gC) oD)⟩
    unfold gC kV at HX;go_wp2;go_meet;exact HX
  | false =>
    have d:=U7;rw[if_neg (fun e=>by have:=D.o.2 e;cases this)] at d;injection d with H L;have l:=HSv.o (by
     rcases Int.lt_or_le u.a 0 with e | e
     . have:=D.o.2 e;cases this
     . exact e)
    rw[<-L] at l;subst H;subst l;go_wp2;go_meet;exact⟨H4,jL,m⟩
 case rest =>
  obtain⟨hT,hB,hr⟩:=hcut;have HT:=hT;have HB:=aa hB;have HR:=aa hr
  have hkl:=(bO.1 hr).1;have Ph:∀W,Below w.heap.size w W->Calls prog 205 #[V dp,I J (un:Int)] W fun e w'=>e=Y (.agg #[V dp,V (eL un)])∧Below W.heap.size W w':=fun W j=>tf dp un un rfl (by omega) W (Dl.o.a j);have HFc:∀W,Calls prog 153 #[V km,V kn] W fun e w'=>e=Y (.agg #[V km,V kn])∧Below W.heap.size W w':=fun W=>ny km kn W;have N:∀W,Below wc.heap.size wc W->W.cell? ⟨w.heap.size,3,U⟩=M (Z uo un gQ)∧W.cell? ⟨c,0,U⟩=M (V f)∧W.cell? ⟨c,1,U⟩=M (V g):=fun W j=>by
   have hr':=(j.block c hkl).trans HR.o;exact⟨(HC _ _ _ (HT.a hJ j)).2.2,aq W _ 0 _ _ _ hr',aq W _ 1 _ _ _ hr'⟩
  generalize eL un=n at *;have PL:∀W,Below wc.heap.size wc W->aK (W.alloc (K #[V dp,V n,V f,V g,V km,V kn] 148)) (w.heap.size+2) 148 2 (M ⟨W.heap.size,0,U⟩) 3 3 (aI [(dp,n),(f,g),(km,kn)])∧bZ mQ jk w 0 [K #[I J u.c,I J u.a,V u.d,Z uo un gQ,I J u.e] 92 (0,0),K #[I J 0,Z U 0 0,Z U 0 0] 126 (0,0)] iW (fun k=>jk k∧k<w.heap.size) (W.alloc (K #[V dp,V n,V f,V g,V km,V kn] 148))∧Below w.heap.size w (W.alloc (K #[V dp,V n,V f,V g,V km,V kn] 148)):=fun W j=>by
   have h1:=HT.a hJ j;have s:=(ar _ W).alloc (ak _) (K #[V dp,V n,V f,V g,V km,V kn] 148);exact⟨vu W #[V dp,V n,V f,V g,V km,V kn] 3 h1.c (by decide) rfl,h1.a hJ s,au (au HB.o j) s⟩
  unfold dp at Ph;unfold km kn at HFc;have s0:=N _ (ar _ _);have S:Below wc.heap.size wc wc.drew:=bj _ _;go_upto_region 4 with fail
  go_cut [4] (fun v4 G=>∃(ao:ag) (t:Nat),v4=Z ao 3 t∧aK G (w.heap.size+2) 148 2 ao t 3 (aI [(dp,n),(f,g),(km,kn)])∧bZ mQ jk w 0 [K #[I J u.c,I J u.a,V u.d,Z uo un gQ,I J u.e] 92 (0,0),K #[I J 0,Z U 0 0,Z U 0 0] 126 (0,0)] iW (fun k=>jk k∧k<w.heap.size) G∧Below w.heap.size w G)
  case first =>
   go_region_held3 (fun W=>W.cell? ⟨w.heap.size,3,U⟩=M (Z uo un gQ)∧W.cell? ⟨c,0,U⟩=M (V f)∧W.cell? ⟨c,1,U⟩=M (V g)) (go_keep) (first
    | (go_at_call 205;refine(Ph _ (au HB.o (by first | with_reducible exact T.o | with_reducible exact S))).mono ?_;rintro e wC ⟨rfl,hC⟩;have hbC:=au (by first | with_reducible exact T.o | with_reducible exact S) hC;have HbC:=aa hbC;obtain⟨a0,a1,a2⟩:=N _ hbC;clear hC hbC)
    | (go_at_call 153;refine(HFc _).mono ?_;rintro e wF ⟨rfl,hF⟩;have hbF:=au (by first | with_reducible exact HbC.o | with_reducible exact S) hF;have T:=aa hbF;obtain⟨a0,a1,a2⟩:=N _ hbF;clear hF hbF))
   all_goals
    go_wp2;go_meet;first
     | exact⟨_,_,rfl,PL _ T.o⟩
     | exact⟨_,_,rfl,PL _ HbC.o⟩
  case rest =>
   obtain⟨ao,t,rfl,hO,hT,hB⟩:=hcut;have H5:=hT;have oC:=aa hB;have zL:=aa hO
   have x1:=HC _ _ _ H5;obtain⟨bm,hbm⟩:∃b,(u.d.toList==([]:ab))=b:=⟨_,rfl⟩;have eM:u.d.size=0<->bm=true:=by
    rw[<-hbm,cR,Lib.toList_data];rw[<-xS,cJ];exact Iff.rfl
   cases bm with
   | true =>
     rw[if_pos (eM.2 rfl)] at HD;go_wp2_with fail;refine(oh 200 200 rfl [(dp,n),(f,g),(km,kn)] ao t 3 wc zL.o.a rfl (by decide)).mono ?_;rintro e w9 ⟨jE,ig,n9,rfl,lV,kM,qp⟩;obtain⟨⟨z0,z1,z2,y0,y1,y2⟩,HE⟩:=H5.j hJ (i:=1) rfl (b:=w.heap.size+1) (by first | rfl | omega) (st:=200) (mJ:=200) rfl lV (cq (dR _ _) H5.c) kM qp;go_wp2;generalize (((w9.setCell ⟨w.heap.size+1,0,U⟩ (I J 200)).setCell ⟨w.heap.size+1,1,U⟩ (Z jE n9 ig)).setCell ⟨w.heap.size+1,2,U⟩ (Z U 0 0))=wf at *;obtain⟨q0,q1,q2,q3⟩:=HE.o;refine aR (v:=.agg #[I J 200,Z jE n9 ig,Z U 0 0]) (by simp[results,results156,go_sem,q0,q1,q2]) rfl ?_;rw[HD.o];exact vW.a q3
   | false =>
     rw[if_neg (fun e=>by have:=eM.1 e;cases this)] at HD;obtain⟨i0,hi0,hz0,hz1,hz2⟩:=info_parts pS;have Hi:=hi0;have lg:=aa hz0;have kZ:=aa hz1;have lq:=aa hz2
     go_wp2_with fail;refine(ny ir u.d wc).mono ?_;rintro e w6 ⟨rfl,hw6⟩;have s:=(ar _ w6).alloc (ak _) (K #[V ir,V u.d] 148);have H6:=(H5.a hJ hw6).a hJ s;have ZK:=(zL.o.B hw6).G (K #[V ir,V u.d] 148);have HZ6:w.heap.size+2<=(w6.alloc (K #[V ir,V u.d] 148)).heap.size:=H6.c;have HP6:∀(x:ag) (Gn:Nat) (w7:X),(w6.alloc (K #[V ir,V u.d] 148)).grownBy w7 (aw ao)->bZ mQ jk w 0 [K #[I J u.c,I J u.a,V u.d,Z uo un gQ,I J u.e] 92 (0,0),K #[I J 0,Z U 0 0,Z U 0 0] 126 (0,0)] iW (fun k=>jk k∧k<w.heap.size) w7:=fun x Gn w7 hG=>by
      cases ao with
      | none=>exact H6.a hJ ((ar _ _).grown hG (ak _) (fun q e=>by cases e))
      | some a =>
        have hab:=(ZK.f a rfl).1;exact H6.nD hJ (b:=a.block) (am.G hG (fun k e=>by injection e with e;exact e.symm)) hab (fun e=>e.1.elim)
     unfold ir at H6 ZK HZ6 HP6;go_wp2_with (at_builtin;refine lO rfl (.tmp 22) (.tmp 26) 80 rfl (w.heap.size+2) 148 i0 (.agg #[V ⟨#[]⟩,V ⟨#[]⟩]) 2 32 underlying80 Hi lg.o kZ.o lq.o rfl (by decide) rfl ZK rfl (bq.j w6 _ 1 _ _) rfl (wZ _ _) (by decide) (by decide) HZ6 ?_;intro x Gn w7 hO7 hG7 _;have H7:=aa (HP6 x Gn w7 hG7);have MR:=aa (oh 200 200 rfl [(dp,n),(f,g),(km,kn),(ir,u.d)] x Gn 4 w7 hO7.a rfl (by decide));clear hO7 hG7 HP6 ZK H6 HZ6)
     refine MR.o.mono ?_;rintro e w9 ⟨jE,ig,n9,rfl,lV,kM,qp⟩;obtain⟨⟨z0,z1,z2,y0,y1,y2⟩,HE⟩:=H7.o.j hJ (i:=1) rfl (b:=w.heap.size+1) (by first | rfl | omega) (st:=200) (mJ:=200) rfl lV (cq (dR _ _) H7.o.c) kM qp;go_wp2;generalize (((w9.setCell ⟨w.heap.size+1,0,U⟩ (I J 200)).setCell ⟨w.heap.size+1,1,U⟩ (Z jE n9 ig)).setCell ⟨w.heap.size+1,2,U⟩ (Z U 0 0))=wf at *;obtain⟨q0,q1,q2,q3⟩:=HE.o;refine aR (v:=.agg #[I J 200,Z jE n9 ig,Z U 0 0]) (by simp[results,results156,go_sem,q0,q1,q2]) rfl ?_;rw[HD.o];exact vW.a q3
section
variable {g:Nat} {m t:ae} {mi ln:Int} {l:aC} {fo:ag} {gy nf:Nat} {bo:ag} {fZ nb:Nat} {w w0:X} {S:Nat->Prop} {s:av}
theorem Ms (p:jQ w0 w S)(h:aS w S g s)(ok:aJ s)(hF:fW w l fo gy nf):
 Calls prog 154 #[.agg #[Q (M ⟨g,0,U⟩),V m,V t,I J mi,Z fo nf gy,I J ln,Z bo nb fZ]] w fun e w'=>oT S w g (nk s m l) e w':=by
 have L:bZ aS S w g [K #[Q (M ⟨g,0,U⟩),V m,V t,I J mi,Z fo nf gy,I J ln,Z bo nb fZ] 185 (0,0),K #[I J 0,Z U 0 0,Z U 0 0] 126 (0,0)] s (fun k=>S k∧k<w.heap.size) ((w.alloc (K #[Q (M ⟨g,0,U⟩),V m,V t,I J mi,Z fo nf gy,I J ln,Z bo nb fZ] 185)).alloc (K #[I J 0,Z U 0 0,Z U 0 0] 126)):=xt h _;have u:Below w.heap.size w ((w.alloc (K #[Q (M ⟨g,0,U⟩),V m,V t,I J mi,Z fo nf gy,I J ln,Z bo nb fZ] 185)).alloc (K #[I J 0,Z U 0 0,Z U 0 0] 126)):=au ((ar _ w).alloc (ak _) _) ((ar _ _).alloc (ak _) _);have HC:∀W s' S',bZ aS S w g [K #[Q (M ⟨g,0,U⟩),V m,V t,I J mi,Z fo nf gy,I J ln,Z bo nb fZ] 185 (0,0),K #[I J 0,Z U 0 0,Z U 0 0] 126 (0,0)] s' S' W->W.cell? ⟨w.heap.size,0,U⟩=M (Q (M ⟨g,0,U⟩))∧W.cell? ⟨w.heap.size,1,U⟩=M (V m)∧W.cell? ⟨w.heap.size,2,U⟩=M (V t)∧W.cell? ⟨w.heap.size,3,U⟩=M (I J mi)∧W.cell? ⟨w.heap.size,4,U⟩=M (Z fo nf gy)∧W.cell? ⟨w.heap.size,5,U⟩=M (I J ln)∧W.cell? ⟨w.heap.size,6,U⟩=M (Z bo nb fZ):=fun W s' S' hW=>hW.lH;obtain⟨x0,x1,x2,x3,x4,x5,x6⟩:=HC _ _ _ L;have N:=hF;have su:=aa ok;have Dl:=aa p
 obtain⟨T,hR⟩:∃T,T=nk s m l:=⟨_,rfl⟩;rw[<-hR];unfold nk at hR;have c:=aa hR;obtain⟨bp,hbp⟩:∃b,(m.toList==([80,79,83,84]:ab))=b:=⟨_,rfl⟩;have eP:m=uS<->bp=true:=by rw[<-hbp];exact nX m uS _ rfl
 go_enter func154,ntmps154;cases bp with
 | false =>
   rw[if_pos (fun e=>by have:=eP.1 e;cases this)] at c;go_wp2_with fail;refine(iA 405 405 rfl _).mono ?_;rintro e D j;obtain⟨f,x,y,z,d⟩:=L.f j;unfold bV at d;subst d;go_wp2;exact⟨rfl,by rw[c.o];exact f.o⟩
 | true =>
   rw[if_neg (fun e=>e (eP.2 rfl))] at c;go_wp2_with fail;refine(fT 405 U 0 0 _).mono ?_;rintro e wq ⟨rfl,hw⟩;rw[hw];cases q:(dh (aZ (aO gc l))).2 with
   | false =>
     rw[if_pos q] at c;have Cx:=QM (g:=g) (m:=m) (t:=t) (mi:=mi) (ln:=ln) (bo:=bo) (fZ:=fZ) (nb:=nb) (N.a u) q;go_wp2_with fail;refine(Cx).mono ?_;rintro e D j;obtain⟨f,x,y,z,d⟩:=L.f j;unfold bV at d;subst d;go_wp2;exact⟨rfl,by rw[c.o];exact f.o⟩
   | true =>
     rw[if_neg (by rw[q];simp)] at c;obtain⟨hsz1,hsz2⟩:=QN (g:=g) (m:=m) (t:=t) (mi:=mi) (ln:=ln) (bo:=bo) (fZ:=fZ) (nb:=nb) (N.a u) q;by_cases a:sv l
     . have Cx:=aa (hsz1 a);unfold sv at a;rw[if_pos a] at c;go_wp2_with fail;refine(Cx).mono ?_;rintro e D j;obtain⟨f,x,y,z,d⟩:=L.f j;unfold bV at d;subst d;go_wp2;exact⟨rfl,by rw[c.o];exact f.o⟩
     . have Cx:=aa (hsz2 a);unfold sv at a;rw[if_neg a] at c;generalize (dh (aZ (aO gc l))).1=n at *;go_wp2_with fail;refine Cx.mono ?_;rintro e w3 ⟨rfl,hw3⟩;have B:=au u hw3;have H3:=L.a bH hw3;obtain⟨x0,x1,x2,x3,x4,x5,x6⟩:=HC _ _ _ H3;have hzm:=N.f qR;generalize hvm:aZ (aO qR l)=rm at *;obtain⟨G,cm⟩:=rm;simp only at hzm c;by_cases C:cm=9
       . subst C;rw[if_pos rfl] at c;have H:=rp (g:=g) (m:=m) (t:=t) (mi:=mi) (ln:=ln) (bo:=bo) (fZ:=fZ) (nb:=nb) ir (by decide) (N.a B) (by rw[GT];exact hvm);unfold ir at H;go_wp2_with fail;refine(H).mono ?_;rintro e D j;obtain⟨f,x,y,z,d⟩:=H3.f j;unfold bV at d;subst d;go_wp2;exact⟨rfl,by rw[c.o];exact f.o⟩
       . rw[if_neg C] at c;have H:=rk (g:=g) (m:=m) (t:=t) (mi:=mi) (ln:=ln) (bo:=bo) (fZ:=fZ) (nb:=nb) ir (by decide) (N.a B) (by rw[GT];exact hvm) C;unfold ir at H;generalize decide (cm=0)=cb at *;have hzz:(gA G).size<=1000000:=by rw[GJ];omega
         rw[show(⟨G.toArray⟩:ae)=gA G from rfl] at H;have JZ:(cy s n (gA G)).2≠0->(cy s n (gA G)).1=s:=fun e=>by unfold cy at e ⊢;exact pE e
         generalize gA G=mb at *;go_wp2_with fail;refine H.mono ?_;rintro e w4 ⟨rfl,hw4⟩;have jL:=au B hw4;have H4:=H3.a bH hw4;obtain⟨x0,x1,x2,x3,x4,x5,x6⟩:=HC _ _ _ H4;have Mw:=BS H4.b su.o n mb hzz;go_wp2_with fail;refine Mw.mono ?_;rintro e w5 ⟨rfl,hat,hT⟩;have H5:=H4.r hat hT;generalize cy s n mb=ra at *;obtain⟨sa,ca⟩:=ra;simp only at c JZ H5 ⊢;obtain⟨x0,x1,x2,x3,x4,x5,x6⟩:=HC _ _ _ H5;by_cases r:ca=0
         . subst r;rw[if_neg (by simp)] at c;have aiA:=su.o.h.c;have aiB:=su.o.y;have Ud:mZ s 0=s.h.a+1:=by unfold mZ;rw[if_pos rfl]
           rw[Ud];have Yr:∀W,dj W->Calls prog 141 #[I J (s.h.a+1)] W fun e w'=>e=Y (V (eL (s.h.a+1).toNat))∧Below W.heap.size W w':=fun W hW=>by
            have:=mE (s.h.a+1).toNat (by omega) W hW;rw[show(((s.h.a+1).toNat:Nat):Int)=s.h.a+1 from by omega] at this;exact this
           have hdz:(eL (s.h.a+1).toNat).size<=9:=by
            show(bx 8 _).toArray.size<=9;rw[cz];have:=gx 8 (s.h.a+1).toNat;omega
           generalize eL (s.h.a+1).toNat=db at *;generalize s.h.a+1=lid at *;go_wp2_with fail;refine(yd _).mono ?_;rintro e wq ⟨rfl,hw⟩;rw[hw];have Jz:=rh H5.b;go_wp2_with fail;refine Jz.mono ?_;rintro e w6 ⟨rfl,vH,CK⟩;have H6:=H5.mI vH CK;have HI6:=Yr w6 (H6.G Dl.o);go_wp2_with fail;refine HI6.mono ?_;rintro e w7 ⟨rfl,hw7⟩;have H7:=H6.a bH hw7;have Kq:=ny qQ (kr++db) w7;unfold qQ kr at Kq;go_wp2_with fail;refine Kq.mono ?_;rintro e w8 ⟨rfl,hw8⟩;have H8:=(H7.a bH hw8).a bH ((ar _ w8).alloc (ak _) (K #[V qQ,V (kr++db)] 148));have MR:=oh 201 201 rfl [(qQ,kr++db)] (M ⟨w8.heap.size,0,U⟩) 1 1 _ (bq.j w8 #[V qQ,V (kr++db)] 1 148 (0,0)) rfl (by decide);unfold qQ kr at MR H8;go_wp2_with fail;refine MR.mono ?_;rintro e D ⟨x,y,z,rfl,lV,kM,qp⟩;obtain⟨⟨z0,z1,z2,y0,y1,y2⟩,f⟩:=H8.j bH (i:=1) rfl (b:=w.heap.size+1) (by first | rfl | omega) (st:=201) (mJ:=201) rfl lV (cq (dR _ _) H8.c) kM qp;go_wp2;generalize (((D.setCell ⟨w.heap.size+1,0,U⟩ (I J 201)).setCell ⟨w.heap.size+1,1,U⟩ (Z x z y)).setCell ⟨w.heap.size+1,2,U⟩ (Z U 0 0))=wf at *;obtain⟨q0,q1,q2,q3⟩:=f.o;refine aR (v:=.agg #[I J 201,Z x z y,Z U 0 0]) (by simp[results,results154,go_sem,q0,q1,q2]) rfl ?_;rw[c.o];exact oT.a q3
         . rw[if_pos r] at c;have hsa:=JZ r;subst hsa;have HNd:=yj ca r w5;generalize mZ sa ca=nn at *;go_wp2_with fail;refine(HNd).mono ?_;rintro e D j;obtain⟨f,x,y,z,d⟩:=H5.f j;unfold bV at d;subst d;go_wp2;exact⟨rfl,by rw[c.o];exact f.o⟩
end
section
variable {g:Nat} {m t:ae} {mi ln:Int} {l:aC} {fo:ag} {gy nf:Nat} {bo:ag} {fZ nb:Nat} {w w0:X} {S:Nat->Prop} {s:av}
theorem bZ.lI {O:nt}{S':Nat->Prop}{bs:List Obj}{W:X}(h:bZ O S w g bs s S' W)(p:jQ w0 w S):jQ w0 W S' :=
 ⟨p.c, p.a.trans (h.e.below (fun k e => p.b k e.1) p.a.size), fun k e => by
  have b:=p.a.size;rcases h.d k e with a | a
  . exact p.b k a.1
  . omega⟩
theorem Og (p:jQ w0 w S)(h:aS w S g s)(ok:aJ s)(hF:fW w l fo gy nf)(body:ab)(hb:body.length=nb)(hB:aB w bo fZ body)(hnb:nb<=100000)(ht:t.size<=100000):
 Calls prog 97 #[.agg #[Q (M ⟨g,0,U⟩),V m,V t,I J mi,Z fo nf gy,I J ln,Z bo nb fZ]] w fun e w'=>oT S w g (bw s m t l body) e w':=by
 have T2:bZ aS S w g [K #[Q (M ⟨g,0,U⟩),V m,V t,I J mi,Z fo nf gy,I J ln,Z bo nb fZ] 185 (0,0),K #[I J 0,Z U 0 0,Z U 0 0] 126 (0,0)] s (fun k=>S k∧k<w.heap.size) ((w.alloc (K #[Q (M ⟨g,0,U⟩),V m,V t,I J mi,Z fo nf gy,I J ln,Z bo nb fZ] 185)).alloc (K #[I J 0,Z U 0 0,Z U 0 0] 126)):=xt h _;have N:Hid (Below w.heap.size w ((w.alloc (K #[Q (M ⟨g,0,U⟩),V m,V t,I J mi,Z fo nf gy,I J ln,Z bo nb fZ] 185)).alloc (K #[I J 0,Z U 0 0,Z U 0 0] 126))):=au ((ar _ w).alloc (ak _) _) ((ar _ _).alloc (ak _) _);have HC:Hid (∀W s' S',bZ aS S w g [K #[Q (M ⟨g,0,U⟩),V m,V t,I J mi,Z fo nf gy,I J ln,Z bo nb fZ] 185 (0,0),K #[I J 0,Z U 0 0,Z U 0 0] 126 (0,0)] s' S' W->W.cell? ⟨w.heap.size,0,U⟩=M (Q (M ⟨g,0,U⟩))∧W.cell? ⟨w.heap.size,1,U⟩=M (V m)∧W.cell? ⟨w.heap.size,2,U⟩=M (V t)∧W.cell? ⟨w.heap.size,3,U⟩=M (I J mi)∧W.cell? ⟨w.heap.size,4,U⟩=M (Z fo nf gy)∧W.cell? ⟨w.heap.size,5,U⟩=M (I J ln)∧W.cell? ⟨w.heap.size,6,U⟩=M (Z bo nb fZ)):=fun W s' S' hW=>hW.lH;obtain⟨x0,x1,x2,x3,x4,x5,x6⟩:=HC.o _ _ _ T2;have H2:=aa T2;have HF:=aa hF;have su:=aa ok;have Dl:=aa p;have yH:=aa hB;have HBl:=aa hb
 clear T2 hF ok p h hB hb;obtain⟨aaJ,hR⟩:∃aaJ,aaJ=bw s m t l body:=⟨_,rfl⟩;rw[<-hR];unfold bw at hR;have a:=aa hR;clear hR;obtain⟨bf,hbf⟩:∃b,(t.toList==([47,102,105,108,101,115]:ab))=b:=⟨_,rfl⟩;have eF:t=nY<->bf=true:=by rw[<-hbf];exact nX t nY _ rfl
 obtain⟨bo_,aiD⟩:∃b,(m.toList==([79,80,84,73,79,78,83]:ab))=b:=⟨_,rfl⟩;have eO:m=Bm<->bo_=true:=by rw[<-aiD];exact nX m Bm _ rfl
 go_enter func97,ntmps97;cases bf with
 | true =>
   have HTf:=aa (eF.2 rfl);cases bo_ with
   | true =>
     rw[if_pos ⟨eF.2 rfl,eO.2 rfl⟩] at a;have HOp:Hid (Calls prog 150 #[] ((w.alloc (K #[Q (M ⟨g,0,U⟩),V m,V t,I J mi,Z fo nf gy,I J ln,Z bo nb fZ] 185)).alloc (K #[I J 0,Z U 0 0,Z U 0 0] 126)) fun e w'=>∃(ao:ag) (cap k:Nat),e=Y (.agg #[I J 204,Z ao k cap,Z U 0 0])∧(bT 204 [(eb,cG),(nj,nr),(nV,nW)]).2.length=k∧aK w' ((w.alloc (K #[Q (M ⟨g,0,U⟩),V m,V t,I J mi,Z fo nf gy,I J ln,Z bo nb fZ] 185)).alloc (K #[I J 0,Z U 0 0,Z U 0 0] 126)).heap.size 148 2 ao cap k (aI (bT 204 [(eb,cG),(nj,nr),(nV,nW)]).2)∧Below ((w.alloc (K #[Q (M ⟨g,0,U⟩),V m,V t,I J mi,Z fo nf gy,I J ln,Z bo nb fZ] 185)).alloc (K #[I J 0,Z U 0 0,Z U 0 0] 126)).heap.size ((w.alloc (K #[Q (M ⟨g,0,U⟩),V m,V t,I J mi,Z fo nf gy,I J ln,Z bo nb fZ] 185)).alloc (K #[I J 0,Z U 0 0,Z U 0 0] 126)) w'):=Lt _ (H2.o.G Dl.o);clear eF eO;go_wp2_with fail;refine HOp.o.mono ?_;rintro e y ⟨j,n,q,rfl,f,c,C⟩;obtain⟨⟨z0,z1,z2,y0,y1,y2⟩,d⟩:=H2.o.j bH (i:=1) rfl (b:=w.heap.size+1) (by first | rfl | omega) (st:=204) (mJ:=204) rfl f (cq (dR _ _) H2.o.c) c C;clear f c C;go_wp2;generalize (((y.setCell ⟨w.heap.size+1,0,U⟩ (I J 204)).setCell ⟨w.heap.size+1,1,U⟩ (Z j q n)).setCell ⟨w.heap.size+1,2,U⟩ (Z U 0 0))=wf at *;obtain⟨q0,q1,q2,q3⟩:=d.o;refine aR (v:=.agg #[I J 204,Z j q n,Z U 0 0]) (by simp[results,results97,go_sem,q0,q1,q2]) rfl ?_;rw[a.o];exact oT.a q3
   | false =>
     rw[if_neg (fun e=>by have:=eO.1 e.2;cases this)] at a;clear eF eO;have DF:=HF.o.f oN;generalize RZ:aZ (aO oN l)=rr at *;obtain⟨vr,cr⟩:=rr;simp only at DF a;by_cases R3:cr=9
     . subst R3;rw[if_pos rfl] at a;have HT:=aa (rp (g:=g) (m:=m) (t:=t) (mi:=mi) (ln:=ln) (bo:=bo) (fZ:=fZ) (nb:=nb) fx (by decide) (HF.o.a N.o) (by rw[ss];exact RZ));unfold fx at HT;clear RZ DF;go_wp2_with fail;refine(HT.o).mono ?_;rintro e y hG;obtain⟨d,j,n,q,he⟩:=H2.o.f hG;unfold bV at he;subst he;clear hG;go_wp2;exact⟨rfl,by rw[a.o];exact d.o⟩
     rw[if_neg R3] at a;have HT:=aa (rk (g:=g) (m:=m) (t:=t) (mi:=mi) (ln:=ln) (bo:=bo) (fZ:=fZ) (nb:=nb) fx (by decide) (HF.o.a N.o) (by rw[ss];exact RZ) R3);unfold fx at HT;clear RZ DF R3;generalize decide (cr=0)=cb at *;obtain⟨bv,hbv⟩:∃b,((⟨vr.toArray⟩:ae).toList==([49,46,48,46,48]:ab))=b:=⟨_,rfl⟩;have eV:vr=cG.data.toList<->bv=true:=by rw[<-hbv];exact xH vr _
     generalize (⟨vr.toArray⟩:ae)=vb at *;go_wp2_with fail;refine(HT.o).mono ?_;rintro e w3 ⟨rfl,r⟩;have HB3:=aa (au N.o r);have H3:=aa (H2.o.a bH r);clear r H2 N x0 x1 x2 x3 x4 x5 x6;obtain⟨x0,x1,x2,x3,x4,x5,x6⟩:=HC.o _ _ _ H3.o;clear HT;have Kq:=aa (ny eb cG w3);unfold eb cG at Kq;go_wp2_with fail;refine Kq.o.mono ?_;rintro e w4 ⟨rfl,r⟩;have x:=(ar _ w4).alloc (ak _) (K #[V eb,V cG] 148);have D:=aa ((H3.o.a bH r).a bH x);have jL:=aa (au (au HB3.o r) x);have sS:=aa (yy 412 412 rfl [(eb,cG)] (M ⟨w4.heap.size,0,U⟩) 1 1 _ (bq.j w4 #[V eb,V cG] 1 148 (0,0)) rfl (by decide));clear r x Kq H3 HB3 x0 x1 x2 x3 x4 x5 x6;cases bv with
     | false =>
       rw[if_pos (fun e=>by have:=eV.1 e;cases this)] at a;unfold eb cG at sS D;go_wp2_with fail;refine(sS.o).mono ?_;rintro e y hG;obtain⟨d,j,n,q,he⟩:=D.o.f hG;unfold bV at he;subst he;clear hG;go_wp2;exact⟨rfl,by rw[a.o];exact d.o⟩
     | true =>
     rw[if_neg (fun e=>e (eV.2 rfl))] at a;clear eV sS;obtain⟨x0,x1,x2,x3,x4,x5,x6⟩:=HC.o _ _ _ D.o;unfold eb cG at x0 x1 x2 x3 x4 x5 x6 D jL;go_wp2_with fail;refine(fT 412 _ _ _ _).mono ?_;rintro e wq ⟨rfl,r⟩;rw[r];clear r;generalize (w4.alloc (K #[V ⟨#[84,117,115,45,86,101,114,115,105,111,110]⟩,V ⟨#[49,46,48,46,48]⟩] 148))=w5 at *;rw[if_pos HTf.o] at a;have Mw:=aa (Ms (g:=g) (m:=m) (t:=t) (mi:=mi) (ln:=ln) (bo:=bo) (fZ:=fZ) (nb:=nb) (D.o.lI Dl.o) D.o.b su.o (HF.o.a jL.o));generalize nk s m l=r9 at *;obtain⟨sr,st,lr⟩:=r9;go_wp2_with fail;refine(Mw.o).mono ?_;rintro e y hE;cases hE with
     | @gave j n q _ f c G H =>
       have d:=aa (D.o.kU f c G H);unfold bV at d ⊢;clear f c G H;go_wp2;exact⟨rfl,by rw[a.o];exact d.o⟩
     | @ret j n q _ f c G H =>
       have IU:=D.o.r G H;replace c:=c.r (cq (dR _ _) D.o.c);have C:=ar y.heap.size y;obtain⟨⟨z0,z1,z2,y0,y1,y2⟩,d⟩:=IU.j bH (i:=1) rfl (b:=w.heap.size+1) (by first | rfl | omega) (st:=st) (mJ:=(st:Int)) rfl f (ak _) c C;clear f c C G H IU;go_wp2;generalize (((y.setCell ⟨w.heap.size+1,0,U⟩ (I J (st:Int))).setCell ⟨w.heap.size+1,1,U⟩ (Z j q n)).setCell ⟨w.heap.size+1,2,U⟩ (Z U 0 0))=wf at *;obtain⟨q0,q1,q2,q3⟩:=d.o;refine aR (v:=.agg #[I J (st:Int),Z j q n,Z U 0 0]) (by simp[results,results97,go_sem,q0,q1,q2]) rfl ?_;rw[a.o];exact oT.a q3
 | false =>
   have HTf:Hid (¬t=nY):=fun e=>by have:=eF.1 e;cases this
   rw[if_neg (fun e=>HTf.o e.1)] at a;clear eF eO;cases bo_ with
   | true =>
     have DF:=HF.o.f oN;generalize RZ:aZ (aO oN l)=rr at *;obtain⟨vr,cr⟩:=rr;simp only at DF a;by_cases R3:cr=9
     . subst R3;rw[if_pos rfl] at a;have HT:=aa (rp (g:=g) (m:=m) (t:=t) (mi:=mi) (ln:=ln) (bo:=bo) (fZ:=fZ) (nb:=nb) fx (by decide) (HF.o.a N.o) (by rw[ss];exact RZ));unfold fx at HT;clear RZ DF;go_wp2_with fail;refine(HT.o).mono ?_;rintro e y hG;obtain⟨d,j,n,q,he⟩:=H2.o.f hG;unfold bV at he;subst he;clear hG;go_wp2;exact⟨rfl,by rw[a.o];exact d.o⟩
     rw[if_neg R3] at a;have HT:=aa (rk (g:=g) (m:=m) (t:=t) (mi:=mi) (ln:=ln) (bo:=bo) (fZ:=fZ) (nb:=nb) fx (by decide) (HF.o.a N.o) (by rw[ss];exact RZ) R3);unfold fx at HT;clear RZ DF R3;generalize decide (cr=0)=cb at *;obtain⟨bv,hbv⟩:∃b,((⟨vr.toArray⟩:ae).toList==([49,46,48,46,48]:ab))=b:=⟨_,rfl⟩;have eV:vr=cG.data.toList<->bv=true:=by rw[<-hbv];exact xH vr _
     generalize (⟨vr.toArray⟩:ae)=vb at *;go_wp2_with fail;refine(HT.o).mono ?_;rintro e w3 ⟨rfl,r⟩;have HB3:=aa (au N.o r);have H3:=aa (H2.o.a bH r);clear r H2 N x0 x1 x2 x3 x4 x5 x6;obtain⟨x0,x1,x2,x3,x4,x5,x6⟩:=HC.o _ _ _ H3.o;clear HT;have Kq:=aa (ny eb cG w3);unfold eb cG at Kq;go_wp2_with fail;refine Kq.o.mono ?_;rintro e w4 ⟨rfl,r⟩;have x:=(ar _ w4).alloc (ak _) (K #[V eb,V cG] 148);have D:=aa ((H3.o.a bH r).a bH x);have jL:=aa (au (au HB3.o r) x);have sS:=aa (yy 412 412 rfl [(eb,cG)] (M ⟨w4.heap.size,0,U⟩) 1 1 _ (bq.j w4 #[V eb,V cG] 1 148 (0,0)) rfl (by decide));clear r x Kq H3 HB3 x0 x1 x2 x3 x4 x5 x6;cases bv with
     | false =>
       rw[if_pos (fun e=>by have:=eV.1 e;cases this)] at a;unfold eb cG at sS D;go_wp2_with fail;refine(sS.o).mono ?_;rintro e y hG;obtain⟨d,j,n,q,he⟩:=D.o.f hG;unfold bV at he;subst he;clear hG;go_wp2;exact⟨rfl,by rw[a.o];exact d.o⟩
     | true =>
     rw[if_neg (fun e=>e (eV.2 rfl))] at a;clear eV sS;obtain⟨x0,x1,x2,x3,x4,x5,x6⟩:=HC.o _ _ _ D.o;unfold eb cG at x0 x1 x2 x3 x4 x5 x6 D jL;go_wp2_with fail;refine(fT 412 _ _ _ _).mono ?_;rintro e wq ⟨rfl,r⟩;rw[r];clear r;generalize (w4.alloc (K #[V ⟨#[84,117,115,45,86,101,114,115,105,111,110]⟩,V ⟨#[49,46,48,46,48]⟩] 148))=w5 at *;rw[if_neg HTf.o] at a;obtain⟨Ql,Qm⟩:=B2 (g:=g) (m:=m) (t:=t) (mi:=mi) (ln:=ln) (fo:=fo) (gy:=gy) (nf:=nf) (bo:=bo) (fZ:=fZ) (nb:=nb) D.o.b su.o (D.o.G Dl.o) ht;cases Qn:lJ s.h t with
     | none =>
       rw[Qn] at a;simp only at a;have MV:=aa (Ql Qn);clear Ql Qm Qn;go_wp2_with fail;refine(MV.o).mono ?_;rintro e y hG;obtain⟨d,j,n,q,he⟩:=D.o.f hG;unfold bV at he;subst he;clear hG;go_wp2;exact⟨rfl,by rw[a.o];exact d.o⟩
     | some u =>
     rw[Qn] at a;simp only at a;have MV:=aa (Qm u Qn);have hmem:=(Bj Qn).1;have huo:=su.o.h.a u hmem;have RL:=huo.a;have hs0:=huo.c;have hs1:=huo.d
     clear Ql Qm Qn hmem huo;obtain⟨L,hun⟩:∃L,u.b.length=L:=⟨_,rfl⟩;have HUn:=aa hun;rw[hun] at RL;rw[hun] at MV;clear hun;go_wp2_with fail;refine MV.o.mono ?_;rintro e z ⟨T,gQ,rfl,r⟩;have x:=(ar _ z).alloc (ak _) (K #[I J u.c,I J u.a,V u.d,Z T L gQ,I J u.e] 92);have B:=aa ((D.o.a bH r).a bH x);have uf:=aa (au (au jL.o r) x);clear r x MV D jL x0 x1 x2 x3 x4 x5 x6;obtain⟨x0,x1,x2,x3,x4,x5,x6⟩:=HC.o _ _ _ B.o;have v0:(z.alloc (K #[I J u.c,I J u.a,V u.d,Z T L gQ,I J u.e] 92)).cell? ⟨z.heap.size,0,U⟩=M (I J u.c):=World.cell?_alloc_mark z _ _ _ 0;have v1:(z.alloc (K #[I J u.c,I J u.a,V u.d,Z T L gQ,I J u.e] 92)).cell? ⟨z.heap.size,1,U⟩=M (I J u.a):=World.cell?_alloc_mark z _ _ _ 1;have v2:(z.alloc (K #[I J u.c,I J u.a,V u.d,Z T L gQ,I J u.e] 92)).cell? ⟨z.heap.size,2,U⟩=M (V u.d):=World.cell?_alloc_mark z _ _ _ 2;have v3:(z.alloc (K #[I J u.c,I J u.a,V u.d,Z T L gQ,I J u.e] 92)).cell? ⟨z.heap.size,3,U⟩=M (Z T L gQ):=World.cell?_alloc_mark z _ _ _ 3;have v4:(z.alloc (K #[I J u.c,I J u.a,V u.d,Z T L gQ,I J u.e] 92)).cell? ⟨z.heap.size,4,U⟩=M (I J u.e):=World.cell?_alloc_mark z _ _ _ 4;go_upto_region 8 with fail
     generalize (z.alloc (K #[I J u.c,I J u.a,V u.d,Z T L gQ,I J u.e] 92))=w7 at *;generalize z.heap.size=k6 at *;unfold qO at a;obtain⟨bh,hbh⟩:∃b,(m.toList==([72,69,65,68]:ab))=b:=⟨_,rfl⟩;have eH:m=uT<->bh=true:=by rw[<-hbh];exact nX m uT _ rfl
     cases bh with
     | true =>
       rw[if_pos (eH.2 rfl)] at a;have HDs:Hid (Calls prog 156 #[.agg #[I J u.c,I J u.a,V u.d,Z T L gQ,I J u.e]] w7 fun e w'=>∃(ao:ag) (cap k:Nat),e=Y (.agg #[I J 200,Z ao k cap,Z U 0 0])∧(jJ u).2.length=k∧aK w' w7.heap.size 148 2 ao cap k (aI (jJ u).2)∧Below w7.heap.size w7 w'):=Ia u T L gQ HUn.o hs0 hs1 RL w7 (B.o.G Dl.o);have R5:Hid (jJ u=(200,(jJ u).2)):=by unfold Hid;rfl
       rw[R5.o] at a;clear eH R5;generalize (jJ u).2=lh at *;go_wp2_with fail;refine HDs.o.mono ?_;rintro e y ⟨j,n,q,rfl,f,c,C⟩;obtain⟨⟨z0,z1,z2,y0,y1,y2⟩,d⟩:=B.o.j bH (i:=1) rfl (b:=w.heap.size+1) (by first | rfl | omega) (st:=200) (mJ:=200) rfl f (cq (dR _ _) B.o.c) c C;clear f c C;go_wp2;generalize (((y.setCell ⟨w.heap.size+1,0,U⟩ (I J 200)).setCell ⟨w.heap.size+1,1,U⟩ (Z j q n)).setCell ⟨w.heap.size+1,2,U⟩ (Z U 0 0))=wf at *;obtain⟨q0,q1,q2,q3⟩:=d.o;refine aR (v:=.agg #[I J 200,Z j q n,Z U 0 0]) (by simp[results,results97,go_sem,q0,q1,q2]) rfl ?_;rw[a.o];exact oT.a q3
     | false =>
     rw[if_neg (fun e=>by have:=eH.1 e;cases this)] at a;clear eH;obtain⟨bt,hbt⟩:∃b,(m.toList==([80,65,84,67,72]:ab))=b:=⟨_,rfl⟩;have eT:m=uW<->bt=true:=by rw[<-hbt];exact nX m uW _ rfl
     cases bt with
     | true =>
       rw[if_neg (fun e=>by have:=(eT.2 rfl).symm.trans e;revert this;decide),if_pos (eT.2 rfl)] at a;have HEx:=aa (B4 (g:=g) (m:=m) (t:=t) (mi:=mi) (ln:=ln) (bo:=bo) (fZ:=fZ) (nb:=nb) (B.o.lI Dl.o) B.o.b su.o (HF.o.a uf.o) body HBl.o (yH.o.a uf.o) hnb u T L gQ HUn.o RL hs0);clear eT;generalize mv s u l body=r9 at *;obtain⟨sr,st,lr⟩:=r9;go_wp2_with fail;refine(HEx.o).mono ?_;rintro e y hE;cases hE with
       | @gave j n q _ f c G H =>
         have d:=aa (B.o.kU f c G H);unfold bV at d ⊢;clear f c G H;go_wp2;exact⟨rfl,by rw[a.o];exact d.o⟩
       | @ret j n q _ f c G H =>
         have IU:=B.o.r G H;replace c:=c.r (cq (dR _ _) B.o.c);have C:=ar y.heap.size y;obtain⟨⟨z0,z1,z2,y0,y1,y2⟩,d⟩:=IU.j bH (i:=1) rfl (b:=w.heap.size+1) (by first | rfl | omega) (st:=st) (mJ:=(st:Int)) rfl f (ak _) c C;clear f c C G H IU;go_wp2;generalize (((y.setCell ⟨w.heap.size+1,0,U⟩ (I J (st:Int))).setCell ⟨w.heap.size+1,1,U⟩ (Z j q n)).setCell ⟨w.heap.size+1,2,U⟩ (Z U 0 0))=wf at *;obtain⟨q0,q1,q2,q3⟩:=d.o;refine aR (v:=.agg #[I J (st:Int),Z j q n,Z U 0 0]) (by simp[results,results97,go_sem,q0,q1,q2]) rfl ?_;rw[a.o];exact oT.a q3
     | false =>
     obtain⟨bd,hbd⟩:∃b,(m.toList==([68,69,76,69,84,69]:ab))=b:=⟨_,rfl⟩;have eD:m=uU<->bd=true:=by rw[<-hbd];exact nX m uU _ rfl
     cases bd with
     | true =>
       rw[if_pos (eD.2 rfl)] at a;have HRe:=aa (B3 (g:=g) (m:=m) (t:=t) (mi:=mi) (ln:=ln) (fo:=fo) (gy:=gy) (nf:=nf) (bo:=bo) (fZ:=fZ) (nb:=nb) B.o.b su.o u T L gQ);clear eT eD;generalize (eA (ga s u.c).1,bT 204 [])=r9 at *;obtain⟨sr,st,lr⟩:=r9;go_wp2_with fail;refine(HRe.o).mono ?_;rintro e y hE;cases hE with
       | @gave j n q _ f c G H =>
         have d:=aa (B.o.kU f c G H);unfold bV at d ⊢;clear f c G H;go_wp2;exact⟨rfl,by rw[a.o];exact d.o⟩
       | @ret j n q _ f c G H =>
         have IU:=B.o.r G H;replace c:=c.r (cq (dR _ _) B.o.c);have C:=ar y.heap.size y;obtain⟨⟨z0,z1,z2,y0,y1,y2⟩,d⟩:=IU.j bH (i:=1) rfl (b:=w.heap.size+1) (by first | rfl | omega) (st:=st) (mJ:=(st:Int)) rfl f (ak _) c C;clear f c C G H IU;go_wp2;generalize (((y.setCell ⟨w.heap.size+1,0,U⟩ (I J (st:Int))).setCell ⟨w.heap.size+1,1,U⟩ (Z j q n)).setCell ⟨w.heap.size+1,2,U⟩ (Z U 0 0))=wf at *;obtain⟨q0,q1,q2,q3⟩:=d.o;refine aR (v:=.agg #[I J (st:Int),Z j q n,Z U 0 0]) (by simp[results,results97,go_sem,q0,q1,q2]) rfl ?_;rw[a.o];exact oT.a q3
     | false =>
     rw[if_neg (fun e=>by have:=eD.1 e;cases this),if_neg (fun e=>by have:=eT.1 e;cases this)] at a;have MR:=aa (oh 405 405 rfl [] U 0 0 w7 (bq.r w7) rfl (by decide));clear eT eD;go_wp2_with fail;refine MR.o.mono ?_;rintro e y ⟨j,n,q,rfl,f,c,C⟩;obtain⟨⟨z0,z1,z2,y0,y1,y2⟩,d⟩:=B.o.j bH (i:=1) rfl (b:=w.heap.size+1) (by first | rfl | omega) (st:=405) (mJ:=405) rfl f (cq (dR _ _) B.o.c) c C;clear f c C;go_wp2;generalize (((y.setCell ⟨w.heap.size+1,0,U⟩ (I J 405)).setCell ⟨w.heap.size+1,1,U⟩ (Z j q n)).setCell ⟨w.heap.size+1,2,U⟩ (Z U 0 0))=wf at *;obtain⟨q0,q1,q2,q3⟩:=d.o;refine aR (v:=.agg #[I J 405,Z j q n,Z U 0 0]) (by simp[results,results97,go_sem,q0,q1,q2]) rfl ?_;rw[a.o];exact oT.a q3
   | false =>
     have DF:=HF.o.f oN;generalize RZ:aZ (aO oN l)=rr at *;obtain⟨vr,cr⟩:=rr;simp only at DF a;by_cases R3:cr=9
     . subst R3;rw[if_pos rfl] at a;have HT:=aa (rp (g:=g) (m:=m) (t:=t) (mi:=mi) (ln:=ln) (bo:=bo) (fZ:=fZ) (nb:=nb) fx (by decide) (HF.o.a N.o) (by rw[ss];exact RZ));unfold fx at HT;clear RZ DF;go_wp2_with fail;refine(HT.o).mono ?_;rintro e y hG;obtain⟨d,j,n,q,he⟩:=H2.o.f hG;unfold bV at he;subst he;clear hG;go_wp2;exact⟨rfl,by rw[a.o];exact d.o⟩
     rw[if_neg R3] at a;have HT:=aa (rk (g:=g) (m:=m) (t:=t) (mi:=mi) (ln:=ln) (bo:=bo) (fZ:=fZ) (nb:=nb) fx (by decide) (HF.o.a N.o) (by rw[ss];exact RZ) R3);unfold fx at HT;clear RZ DF R3;generalize decide (cr=0)=cb at *;obtain⟨bv,hbv⟩:∃b,((⟨vr.toArray⟩:ae).toList==([49,46,48,46,48]:ab))=b:=⟨_,rfl⟩;have eV:vr=cG.data.toList<->bv=true:=by rw[<-hbv];exact xH vr _
     generalize (⟨vr.toArray⟩:ae)=vb at *;go_wp2_with fail;refine(HT.o).mono ?_;rintro e w3 ⟨rfl,r⟩;have HB3:=aa (au N.o r);have H3:=aa (H2.o.a bH r);clear r H2 N x0 x1 x2 x3 x4 x5 x6;obtain⟨x0,x1,x2,x3,x4,x5,x6⟩:=HC.o _ _ _ H3.o;clear HT;have Kq:=aa (ny eb cG w3);unfold eb cG at Kq;go_wp2_with fail;refine Kq.o.mono ?_;rintro e w4 ⟨rfl,r⟩;have x:=(ar _ w4).alloc (ak _) (K #[V eb,V cG] 148);have D:=aa ((H3.o.a bH r).a bH x);have jL:=aa (au (au HB3.o r) x);have sS:=aa (yy 412 412 rfl [(eb,cG)] (M ⟨w4.heap.size,0,U⟩) 1 1 _ (bq.j w4 #[V eb,V cG] 1 148 (0,0)) rfl (by decide));clear r x Kq H3 HB3 x0 x1 x2 x3 x4 x5 x6;cases bv with
     | false =>
       rw[if_pos (fun e=>by have:=eV.1 e;cases this)] at a;unfold eb cG at sS D;go_wp2_with fail;refine(sS.o).mono ?_;rintro e y hG;obtain⟨d,j,n,q,he⟩:=D.o.f hG;unfold bV at he;subst he;clear hG;go_wp2;exact⟨rfl,by rw[a.o];exact d.o⟩
     | true =>
     rw[if_neg (fun e=>e (eV.2 rfl))] at a;clear eV sS;obtain⟨x0,x1,x2,x3,x4,x5,x6⟩:=HC.o _ _ _ D.o;unfold eb cG at x0 x1 x2 x3 x4 x5 x6 D jL;go_wp2_with fail;refine(fT 412 _ _ _ _).mono ?_;rintro e wq ⟨rfl,r⟩;rw[r];clear r;generalize (w4.alloc (K #[V ⟨#[84,117,115,45,86,101,114,115,105,111,110]⟩,V ⟨#[49,46,48,46,48]⟩] 148))=w5 at *;rw[if_neg HTf.o] at a;obtain⟨Ql,Qm⟩:=B2 (g:=g) (m:=m) (t:=t) (mi:=mi) (ln:=ln) (fo:=fo) (gy:=gy) (nf:=nf) (bo:=bo) (fZ:=fZ) (nb:=nb) D.o.b su.o (D.o.G Dl.o) ht;cases Qn:lJ s.h t with
     | none =>
       rw[Qn] at a;simp only at a;have MV:=aa (Ql Qn);clear Ql Qm Qn;go_wp2_with fail;refine(MV.o).mono ?_;rintro e y hG;obtain⟨d,j,n,q,he⟩:=D.o.f hG;unfold bV at he;subst he;clear hG;go_wp2;exact⟨rfl,by rw[a.o];exact d.o⟩
     | some u =>
     rw[Qn] at a;simp only at a;have MV:=aa (Qm u Qn);have hmem:=(Bj Qn).1;have huo:=su.o.h.a u hmem;have RL:=huo.a;have hs0:=huo.c;have hs1:=huo.d
     clear Ql Qm Qn hmem huo;obtain⟨L,hun⟩:∃L,u.b.length=L:=⟨_,rfl⟩;have HUn:=aa hun;rw[hun] at RL;rw[hun] at MV;clear hun;go_wp2_with fail;refine MV.o.mono ?_;rintro e z ⟨T,gQ,rfl,r⟩;have x:=(ar _ z).alloc (ak _) (K #[I J u.c,I J u.a,V u.d,Z T L gQ,I J u.e] 92);have B:=aa ((D.o.a bH r).a bH x);have uf:=aa (au (au jL.o r) x);clear r x MV D jL x0 x1 x2 x3 x4 x5 x6;obtain⟨x0,x1,x2,x3,x4,x5,x6⟩:=HC.o _ _ _ B.o;have v0:(z.alloc (K #[I J u.c,I J u.a,V u.d,Z T L gQ,I J u.e] 92)).cell? ⟨z.heap.size,0,U⟩=M (I J u.c):=World.cell?_alloc_mark z _ _ _ 0;have v1:(z.alloc (K #[I J u.c,I J u.a,V u.d,Z T L gQ,I J u.e] 92)).cell? ⟨z.heap.size,1,U⟩=M (I J u.a):=World.cell?_alloc_mark z _ _ _ 1;have v2:(z.alloc (K #[I J u.c,I J u.a,V u.d,Z T L gQ,I J u.e] 92)).cell? ⟨z.heap.size,2,U⟩=M (V u.d):=World.cell?_alloc_mark z _ _ _ 2;have v3:(z.alloc (K #[I J u.c,I J u.a,V u.d,Z T L gQ,I J u.e] 92)).cell? ⟨z.heap.size,3,U⟩=M (Z T L gQ):=World.cell?_alloc_mark z _ _ _ 3;have v4:(z.alloc (K #[I J u.c,I J u.a,V u.d,Z T L gQ,I J u.e] 92)).cell? ⟨z.heap.size,4,U⟩=M (I J u.e):=World.cell?_alloc_mark z _ _ _ 4;go_upto_region 8 with fail
     generalize (z.alloc (K #[I J u.c,I J u.a,V u.d,Z T L gQ,I J u.e] 92))=w7 at *;generalize z.heap.size=k6 at *;unfold qO at a;obtain⟨bh,hbh⟩:∃b,(m.toList==([72,69,65,68]:ab))=b:=⟨_,rfl⟩;have eH:m=uT<->bh=true:=by rw[<-hbh];exact nX m uT _ rfl
     cases bh with
     | true =>
       rw[if_pos (eH.2 rfl)] at a;have HDs:Hid (Calls prog 156 #[.agg #[I J u.c,I J u.a,V u.d,Z T L gQ,I J u.e]] w7 fun e w'=>∃(ao:ag) (cap k:Nat),e=Y (.agg #[I J 200,Z ao k cap,Z U 0 0])∧(jJ u).2.length=k∧aK w' w7.heap.size 148 2 ao cap k (aI (jJ u).2)∧Below w7.heap.size w7 w'):=Ia u T L gQ HUn.o hs0 hs1 RL w7 (B.o.G Dl.o);have R5:Hid (jJ u=(200,(jJ u).2)):=by unfold Hid;rfl
       rw[R5.o] at a;clear eH R5;generalize (jJ u).2=lh at *;go_wp2_with fail;refine HDs.o.mono ?_;rintro e y ⟨j,n,q,rfl,f,c,C⟩;obtain⟨⟨z0,z1,z2,y0,y1,y2⟩,d⟩:=B.o.j bH (i:=1) rfl (b:=w.heap.size+1) (by first | rfl | omega) (st:=200) (mJ:=200) rfl f (cq (dR _ _) B.o.c) c C;clear f c C;go_wp2;generalize (((y.setCell ⟨w.heap.size+1,0,U⟩ (I J 200)).setCell ⟨w.heap.size+1,1,U⟩ (Z j q n)).setCell ⟨w.heap.size+1,2,U⟩ (Z U 0 0))=wf at *;obtain⟨q0,q1,q2,q3⟩:=d.o;refine aR (v:=.agg #[I J 200,Z j q n,Z U 0 0]) (by simp[results,results97,go_sem,q0,q1,q2]) rfl ?_;rw[a.o];exact oT.a q3
     | false =>
     rw[if_neg (fun e=>by have:=eH.1 e;cases this)] at a;clear eH;obtain⟨bt,hbt⟩:∃b,(m.toList==([80,65,84,67,72]:ab))=b:=⟨_,rfl⟩;have eT:m=uW<->bt=true:=by rw[<-hbt];exact nX m uW _ rfl
     cases bt with
     | true =>
       rw[if_neg (fun e=>by have:=(eT.2 rfl).symm.trans e;revert this;decide),if_pos (eT.2 rfl)] at a;have HEx:=aa (B4 (g:=g) (m:=m) (t:=t) (mi:=mi) (ln:=ln) (bo:=bo) (fZ:=fZ) (nb:=nb) (B.o.lI Dl.o) B.o.b su.o (HF.o.a uf.o) body HBl.o (yH.o.a uf.o) hnb u T L gQ HUn.o RL hs0);clear eT;generalize mv s u l body=r9 at *;obtain⟨sr,st,lr⟩:=r9;go_wp2_with fail;refine(HEx.o).mono ?_;rintro e y hE;cases hE with
       | @gave j n q _ f c G H =>
         have d:=aa (B.o.kU f c G H);unfold bV at d ⊢;clear f c G H;go_wp2;exact⟨rfl,by rw[a.o];exact d.o⟩
       | @ret j n q _ f c G H =>
         have IU:=B.o.r G H;replace c:=c.r (cq (dR _ _) B.o.c);have C:=ar y.heap.size y;obtain⟨⟨z0,z1,z2,y0,y1,y2⟩,d⟩:=IU.j bH (i:=1) rfl (b:=w.heap.size+1) (by first | rfl | omega) (st:=st) (mJ:=(st:Int)) rfl f (ak _) c C;clear f c C G H IU;go_wp2;generalize (((y.setCell ⟨w.heap.size+1,0,U⟩ (I J (st:Int))).setCell ⟨w.heap.size+1,1,U⟩ (Z j q n)).setCell ⟨w.heap.size+1,2,U⟩ (Z U 0 0))=wf at *;obtain⟨q0,q1,q2,q3⟩:=d.o;refine aR (v:=.agg #[I J (st:Int),Z j q n,Z U 0 0]) (by simp[results,results97,go_sem,q0,q1,q2]) rfl ?_;rw[a.o];exact oT.a q3
     | false =>
     obtain⟨bd,hbd⟩:∃b,(m.toList==([68,69,76,69,84,69]:ab))=b:=⟨_,rfl⟩;have eD:m=uU<->bd=true:=by rw[<-hbd];exact nX m uU _ rfl
     cases bd with
     | true =>
       rw[if_pos (eD.2 rfl)] at a;have HRe:=aa (B3 (g:=g) (m:=m) (t:=t) (mi:=mi) (ln:=ln) (fo:=fo) (gy:=gy) (nf:=nf) (bo:=bo) (fZ:=fZ) (nb:=nb) B.o.b su.o u T L gQ);clear eT eD;generalize (eA (ga s u.c).1,bT 204 [])=r9 at *;obtain⟨sr,st,lr⟩:=r9;go_wp2_with fail;refine(HRe.o).mono ?_;rintro e y hE;cases hE with
       | @gave j n q _ f c G H =>
         have d:=aa (B.o.kU f c G H);unfold bV at d ⊢;clear f c G H;go_wp2;exact⟨rfl,by rw[a.o];exact d.o⟩
       | @ret j n q _ f c G H =>
         have IU:=B.o.r G H;replace c:=c.r (cq (dR _ _) B.o.c);have C:=ar y.heap.size y;obtain⟨⟨z0,z1,z2,y0,y1,y2⟩,d⟩:=IU.j bH (i:=1) rfl (b:=w.heap.size+1) (by first | rfl | omega) (st:=st) (mJ:=(st:Int)) rfl f (ak _) c C;clear f c C G H IU;go_wp2;generalize (((y.setCell ⟨w.heap.size+1,0,U⟩ (I J (st:Int))).setCell ⟨w.heap.size+1,1,U⟩ (Z j q n)).setCell ⟨w.heap.size+1,2,U⟩ (Z U 0 0))=wf at *;obtain⟨q0,q1,q2,q3⟩:=d.o;refine aR (v:=.agg #[I J (st:Int),Z j q n,Z U 0 0]) (by simp[results,results97,go_sem,q0,q1,q2]) rfl ?_;rw[a.o];exact oT.a q3
     | false =>
     rw[if_neg (fun e=>by have:=eD.1 e;cases this),if_neg (fun e=>by have:=eT.1 e;cases this)] at a;have MR:=aa (oh 405 405 rfl [] U 0 0 w7 (bq.r w7) rfl (by decide));clear eT eD;go_wp2_with fail;refine MR.o.mono ?_;rintro e y ⟨j,n,q,rfl,f,c,C⟩;obtain⟨⟨z0,z1,z2,y0,y1,y2⟩,d⟩:=B.o.j bH (i:=1) rfl (b:=w.heap.size+1) (by first | rfl | omega) (st:=405) (mJ:=405) rfl f (cq (dR _ _) B.o.c) c C;clear f c C;go_wp2;generalize (((y.setCell ⟨w.heap.size+1,0,U⟩ (I J 405)).setCell ⟨w.heap.size+1,1,U⟩ (Z j q n)).setCell ⟨w.heap.size+1,2,U⟩ (Z U 0 0))=wf at *;obtain⟨q0,q1,q2,q3⟩:=d.o;refine aR (v:=.agg #[I J 405,Z j q n,Z U 0 0]) (by simp[results,results97,go_sem,q0,q1,q2]) rfl ?_;rw[a.o];exact oT.a q3
end
theorem Im (b:Nat)(st:Int)(ao:ag)(n cap:Nat)(a:List PanicEntry)(w:X)(d:w.cell? ⟨b,0,U⟩=M (I J 0)∧w.cell? ⟨b,1,U⟩=M (Z U 0 0)∧w.cell? ⟨b,2,U⟩=M (Z U 0 0)∧w.frozen? ⟨b,0,U⟩=F∧w.frozen? ⟨b,1,U⟩=F∧w.frozen? ⟨b,2,U⟩=F):
 CallsD prog 149 #[Q (M ⟨b,0,U⟩)] (.panicking ({ v:=.iface 233 (.agg #[I J st,Z ao n cap,Z U 0 0]),recovered:=F }::a)) w fun e f w' =>
  e=Y (.tuple #[])∧f=.panicking ({ v:=.iface 233 (.agg #[I J st,Z ao n cap,Z U 0 0]),recovered:=true }::a)∧w'=(((w.setCell ⟨b,0,U⟩ (I J st)).setCell ⟨b,1,U⟩ (Z ao n cap)).setCell ⟨b,2,U⟩ (Z U 0 0)):=by
 obtain⟨k,l,m,o,p,q⟩:=d;refine callsD_of_wpS func149 rfl fun c r g=>?_;apply wpS_seq;apply wpS_region;simp[wpOpsS,go_sem,recoverD,g,ntmps149,Exit.thenS];change Code.wpS _ _ _ { tmps:=#[Q (M ⟨b,0,U⟩),.iface 233 (.agg #[I J st,Z ao n cap,Z U 0 0]),.iface 233 (.agg #[I J st,Z ao n cap,Z U 0 0]),undef,undef,undef,undef,undef],defers:=[] } _ _;refine wpS_of_wp ?_;have i:∀w:X,(Instr.typeAssert (.iface 233 (.agg #[I J st,Z ao n cap,Z U 0 0])) 20 233 F).run prog w=.ok (.agg #[I J st,Z ao n cap,Z U 0 0]) w:=fun _=>by kernel_rfl
 have j:∀w:X,(Instr.field 233 (.agg #[I J st,Z ao n cap,Z U 0 0]) 0).run prog w=.ok (.agg #[I J st,Z ao n cap,Z U 0 0]) w:=fun _=>by kernel_rfl
 go_wp2;simp[bodyPostS,results,results149]
theorem Mt (b:Nat)(w:X):
 CallsD prog 149 #[Q (M ⟨b,0,U⟩)] .returning w fun e c w'=>e=Y (.tuple #[])∧c=.returning∧w'=w:=by
 refine callsD_of_wpS func149 rfl fun a f d=>?_;apply wpS_seq;apply wpS_region;simp[wpOpsS,go_sem,recoverD,d,ntmps149,Exit.thenS];change Code.wpS _ _ _ { tmps:=#[Q (M ⟨b,0,U⟩),.nilIface,.nilIface,undef,undef,undef,undef,undef],defers:=[] } _ _;refine wpS_of_wp ?_;go_wp2;cases a;simp_all [bodyPostS,results,results149]
section
variable {g:Nat} {m t:ae} {mi ln:Int} {l:aC} {fo:ag} {gy nf:Nat} {bo:ag} {fZ nb:Nat} {w w0:X} {S:Nat->Prop} {s:av}
theorem TA (h:aS w S g s):bZ aS S w g [K #[I J 0,Z U 0 0,Z U 0 0] 126 (0,0)] s (fun k=>S k∧k<w.heap.size) (w.alloc (K #[I J 0,Z U 0 0,Z U 0 0] 126)):=(bZ.jY bH h).y bH rfl (fun _ e=>e.2) _
theorem Mu (p:jQ w0 w S)(h:aS w S g s)(ok:aJ s)(hF:fW w l fo gy nf)(body:ab)(hb:body.length=nb)(hB:aB w bo fZ body)(x:nb<=100000)(ht:t.size<=100000):
 Calls prog 96 #[.func (.func 97) #[.agg #[Q (M ⟨g,0,U⟩),V m,V t,I J mi,Z fo nf gy,I J ln,Z bo nb fZ]] #[]] w fun e w'=>vW aS S w g (bw s m t l body) e w':=by
 have Rs:∀(fn:Fn) (first k:Array Value) (w:X),(Instr.makeFunc fn first k).run prog w=.ok (.func fn first k) w:=fun _ _ _ _=>rfl;have j:=TA h;have n:=(ar _ w).alloc (ak _) (K #[I J 0,Z U 0 0,Z U 0 0] 126);have q:=Og (m:=m) (t:=t) (mi:=mi) (ln:=ln) (bo:=bo) (fZ:=fZ) (nb:=nb) (j.lI p) j.b ok (hF.a n) body hb (hB.a n) x ht;obtain⟨a,hR⟩:∃a,a=bw s m t l body:=⟨_,rfl⟩;rw[<-hR] at q ⊢;obtain⟨sr,st,lr⟩:=a;go_enter_defers func96,ntmps96
 go_wp2_with fail;refine q.mono ?_;rintro e c hE;cases hE with
 | @gave r u v _ y d z B =>
   have C:=j.r z B;replace d:=d.r (cq (dR _ _) j.c);obtain⟨hz,D⟩:=C.j bH (i:=0) rfl (b:=w.heap.size) (by first | rfl | omega) (st:=st) (mJ:=(st:Int)) rfl y (ak _) d (ar c.heap.size c);unfold bV;go_wp2;refine leaves_cons (f:=149) (args:=#[Q (M ⟨w.heap.size,0,U⟩)]) (by simp) (by simp[go_sem]) ?_;refine(Im w.heap.size st r v u [] c hz).mono ?_;rintro e u' G ⟨rfl,rfl,H⟩;rw[H];generalize (((c.setCell ⟨w.heap.size,0,U⟩ (I J (st:Int))).setCell ⟨w.heap.size,1,U⟩ (Z r v u)).setCell ⟨w.heap.size,2,U⟩ (Z U 0 0))=wf at *;obtain⟨L,N,T,W⟩:=D.o;simp[Leaves,settle,results,results96,go_sem,L,N,T];exact W
 | @ret r u v _ y d z B =>
   have C:=j.r z B;replace d:=d.r (cq (dR _ _) j.c);obtain⟨⟨z0,z1,z2,y0,y1,y2⟩,D⟩:=C.j bH (i:=0) rfl (b:=w.heap.size) (by first | rfl | omega) (st:=st) (mJ:=(st:Int)) rfl y (ak _) d (ar c.heap.size c);go_wp2;refine leaves_cons (f:=149) (args:=#[Q (M ⟨w.heap.size,0,U⟩)]) (by simp) (by simp[go_sem]) ?_;refine(Mt w.heap.size _).mono ?_;rintro e u' G ⟨rfl,rfl,H⟩;rw[H];generalize (((c.setCell ⟨w.heap.size,0,U⟩ (I J (st:Int))).setCell ⟨w.heap.size,1,U⟩ (Z r v u)).setCell ⟨w.heap.size,2,U⟩ (Z U 0 0))=wf at *;obtain⟨L,N,T,W⟩:=D.o;simp[Leaves,settle,results,results96,go_sem,L,N,T];exact W
theorem FC (p:jQ w0 w S)(h:aS w S g s)(ok:aJ s)(D:fW w l fo gy nf)(body:ab)(G:body.length=nb)(H:aB w bo fZ body)(r:nb<=100000)(L:t.size<=100000):
 Calls prog 53 #[Q (M ⟨g,0,U⟩),.agg #[V m,V t,I J mi,Z fo nf gy,I J ln],Z bo nb fZ] w fun e w'=>vW aS S w g (bw s m t l body) e w':=by
 have Rs:∀(y:Fn) (first d:Array Value) (w:X),(Instr.makeFunc y first d).run prog w=.ok (.func y first d) w:=fun _ _ _ _=>rfl;have a:(w.alloc (K #[V m,V t,I J mi,Z fo nf gy,I J ln] 82)).heap.size=w.heap.size+1:=bF ..;have f:((w.alloc (K #[V m,V t,I J mi,Z fo nf gy,I J ln] 82)).alloc (K #[I J 0,Z U 0 0,Z U 0 0] 126)).heap.size=w.heap.size+2:=by rw[bF,a]
 have q:bZ aS S w g [K #[V m,V t,I J mi,Z fo nf gy,I J ln] 82 (0,0),K #[I J 0,Z U 0 0,Z U 0 0] 126 (0,0),K #[Q (M ⟨g,0,U⟩),V m,V t,I J mi,Z fo nf gy,I J ln,Z bo nb fZ] 185 (0,0)] s (fun k=>S k∧k<w.heap.size) (((w.alloc (K #[V m,V t,I J mi,Z fo nf gy,I J ln] 82)).alloc (K #[I J 0,Z U 0 0,Z U 0 0] 126)).alloc (K #[Q (M ⟨g,0,U⟩),V m,V t,I J mi,Z fo nf gy,I J ln,Z bo nb fZ] 185)) :=
  (((bZ.jY bH h).y bH rfl (fun k e=>e.2) _).y bH a (fun k e=>by rw[a];have:=e.2;omega) _).y bH f (fun k e=>by rw[f];have:=e.2;omega) _
 have j:Below w.heap.size w (((w.alloc (K #[V m,V t,I J mi,Z fo nf gy,I J ln] 82)).alloc (K #[I J 0,Z U 0 0,Z U 0 0] 126)).alloc (K #[Q (M ⟨g,0,U⟩),V m,V t,I J mi,Z fo nf gy,I J ln,Z bo nb fZ] 185)):=au (au ((ar _ w).alloc (ak _) _) ((ar _ _).alloc (ak _) _)) ((ar _ _).alloc (ak _) _);have n:=Mu (m:=m) (t:=t) (mi:=mi) (ln:=ln) (bo:=bo) (fZ:=fZ) (nb:=nb) (q.lI p) q.b ok (D.a j) body G (H.a j) r L;obtain⟨c,N⟩:∃c,c=bw s m t l body:=⟨_,rfl⟩;rw[<-N] at n ⊢;obtain⟨sr,st,lr⟩:=c;go_enter func53,ntmps53;go_wp2_with fail;refine n.mono ?_;rintro e u ⟨⟨z,B,C,rfl,T,x⟩,W,qP⟩;have IU:=q.r W qP;replace x:=x.r (cq (dR _ _) q.c);obtain⟨⟨z0,z1,z2,y0,y1,y2⟩,HE⟩:=IU.j bH (i:=1) rfl (b:=w.heap.size+1) (by first | rfl | omega) (st:=st) (mJ:=(st:Int)) rfl T (ak _) x (ar u.heap.size u);go_wp2;generalize (((u.setCell ⟨w.heap.size+1,0,U⟩ (I J (st:Int))).setCell ⟨w.heap.size+1,1,U⟩ (Z z C B)).setCell ⟨w.heap.size+1,2,U⟩ (Z U 0 0))=wf at *;obtain⟨q0,q1,q2,q3⟩:=HE.o;refine aR (v:=.agg #[I J (st:Int),Z z C B,Z U 0 0]) (by simp[results,results53,go_sem,q0,q1,q2]) rfl ?_;exact q3
end
theorem Q5 (n:Int)(d:-1<=n)(f:n<1000000000)(W:X)(a:dj W):Calls prog 141 #[I J n] W fun e w'=>e=Y (V ⟨(fD n).toArray⟩)∧Below W.heap.size W w':=by
 unfold fD jc;by_cases h:n<0
 . obtain rfl:n=-1:=by omega
   have h:=Any.strconv_Itoa Tryz.lays171 (-((1:Nat):Int)) (by omega) (by omega) W a;rw[Lib.itoa_neg 1 (by decide),BL 8 1 (by decide)] at h;refine h.mono ?_;rintro e w' ⟨b,k,c,rfl⟩;exact⟨b,Lib.below_grow _ W (ak _) k c⟩
 . rw[if_neg h];have:=mE n.toNat (by omega) W a;rw[show((n.toNat:Nat):Int)=n from by omega] at this;exact this
