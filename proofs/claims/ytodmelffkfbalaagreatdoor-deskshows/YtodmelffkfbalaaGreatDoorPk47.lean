import Derived.Test.YtodmelffkfbalaaGreatDoorFbPow
import Derived.Test.YtodmelffkfbalaaGreatDoorPk45
open Go.Value renaming int->I,string->V,slice->Z,pointer->Q
open Go.IntKind renaming i64->J
open Go.Obj renaming cells->K
open Go.Ending renaming returned->Y
open Option renaming none->U,some->M
open Bool renaming false->F
open Or renaming inl->A,inr->R
open Go renaming World->X
set_option maxHeartbeats 8000000
set_option maxRecDepth 100000
open Go.Proofs.Tryz
namespace Go.Proofs.YtodmelffkfbalaaGreatDoor
open Go.RowKit
theorem EB (a v:ae)(x:Int)(w:X)(l:∀W,Below w.heap.size w W->Calls prog 141 #[I J x] W fun e w'=>e=Y (V v)∧Below W.heap.size W w'):
 Calls prog 205 #[V a,I J x] w fun e w'=>e=Y (.agg #[V a,V v])∧Below w.heap.size w w':=by
 have i:=(ar _ w).alloc (am _) (K #[V ⟨#[]⟩,V ⟨#[]⟩] 148);go_enter func205,ntmps205;go_wp2_with fail;refine(l _ i).mono ?_;rintro e m ⟨rfl,f⟩;go_wp2_with fail;refine(nF a v m).mono ?_;rintro e b ⟨rfl,g⟩;have c:=au f g;have d:=(c.block w.heap.size (by simp)).trans (be w _);have r:=aq b _ 0 _ _ _ d;have s:=aq b _ 1 _ _ _ d;have t:=aP b _ 0 _ _ d;have u:=aP b _ 1 _ _ d;have n:=((au i c).setCell (p:=⟨w.heap.size,0,U⟩) (am _) (V a)).setCell (p:=⟨w.heap.size,1,U⟩) (am _) (V v);have j:=aR _ _ 1 _ _ (V v) (aR _ _ 0 _ _ (V a) d);go_wp2;generalize ((b.setCell ⟨w.heap.size,0,U⟩ (V a)).setCell ⟨w.heap.size,1,U⟩ (V v))=k at *;have o:=aq k _ 0 _ _ _ j;have q:=aq k _ 1 _ _ _ j;exact aS (v:=.agg #[V a,V v]) (by simp[results,results205,go_sem,o,q]) rfl ⟨rfl,n⟩
theorem tf (a:ae)(n:Nat)(x:Int)(b:(n:Int)=x)(c:n<1000000000)(w:X)(d:di w):Calls prog 205 #[V a,I J x] w fun e w'=>e=Y (.agg #[V a,V (eW n)])∧Below w.heap.size w w':=by
 subst b;exact EB a (eW n) n w (fun W f=>mD n c W (d.a f))
theorem Co (c:Nat)(w:X):
 Calls prog 266 #[I J (c:Int)] w fun e w'=>e=Y (I J (pM c:Nat))∧w'=w:=by
 by_cases a:c=10
 . subst a;go_enter func266,ntmps266;go_wp2;go_ret;exact⟨rfl,rfl⟩
 by_cases b:c=17
 . subst b;go_enter func266,ntmps266;go_wp2;go_ret;exact⟨rfl,rfl⟩
 by_cases d:c=19
 . subst d;go_enter func266,ntmps266;go_wp2;go_ret;exact⟨rfl,rfl⟩
 by_cases g:c=4
 . subst g;go_enter func266,ntmps266;go_wp2;go_ret;exact⟨rfl,rfl⟩
 by_cases i:c=8
 . subst i;go_enter func266,ntmps266;go_wp2;go_ret;exact⟨rfl,rfl⟩
 by_cases f:c=16
 . subst f;go_enter func266,ntmps266;go_wp2;go_ret;exact⟨rfl,rfl⟩
 have j:Hid (pM c=400):=by
  unfold Hid pM;rw[if_neg a,if_neg (by omega),if_neg g,if_neg (by omega)]
 have k:((c:Int)==10)=F:=by rw[aO];omega
 have l:((c:Int)==17)=F:=by rw[aO];omega
 have m:((c:Int)==19)=F:=by rw[aO];omega
 have p:((c:Int)==4)=F:=by rw[aO];omega
 have q:((c:Int)==8)=F:=by rw[aO];omega
 have n:((c:Int)==16)=F:=by rw[aO];omega
 go_enter func266,ntmps266;go_wp2;go_ret;exact⟨by rw[j.o];rfl,rfl⟩
theorem ya (w:X):Calls prog 209 #[I J 0] w fun e w'=>e=Y (.tuple #[])∧w'=w:=by
 have b:=aa (Co 0 w);go_enter func209,ntmps209;go_wp2_with fail;refine b.o.mono ?_;rintro e c ⟨rfl,a⟩;rw[a];clear a;go_wp2_with fail;refine(fT _ U 0 0 w).mono ?_;rintro e d ⟨rfl,a⟩;rw[a];clear a;go_wp2;go_end0
 exact⟨rfl,rfl⟩
theorem yi (c:Nat)(i:c≠0)(w:X):Calls prog 209 #[I J (c:Int)] w fun e w'=>gK w (bR (pM c) []) e w':=by
 have j:((c:Int)==0)=F:=by rw[aO];omega
 go_enter func209,ntmps209;go_wp2_with fail;refine(Co c w).mono ?_;rintro e k ⟨rfl,d⟩;rw[d];go_wp2_with fail;refine(iC (pM c) (pM c:Nat) rfl w).mono ?_;rintro e l a;have f:=aa a;obtain⟨m,g,n,b,_,_,_⟩:=a;unfold bS at b;subst b;go_wp2;exact⟨rfl,f.o⟩
structure fX (w:X)(l:aC)(fo:ag)(fZ nf:Nat):Prop where
 d:bx w fo fZ nf (aJ l)
 f:l.length=nf
 c:nf<=1000
 b:∀p∈l,p.1.size<=2000∧p.2.size<=2000
theorem fX.a {w w':X}{l:aC}{fo:ag}{fZ nf:Nat}(h:fX w l fo fZ nf)(a:Below w.heap.size w w'):fX w' l fo fZ nf:=⟨h.d.a a,h.f,h.c,h.b⟩
section
variable {g:Nat} {m t:ae} {mi ln:Int} {l:aC} {fo:ag} {fZ nf:Nat} {bo:ag} {fV nb:Nat} {w:X}
theorem rt (a:ae)(n:a.size<=2000)(h:fX w l fo fZ nf){v:ab}{c:Nat}(p:ba (aQ a l)=(v,c))(x:c≠9):
 Calls prog 151 #[.agg #[Q (M ⟨g,0,U⟩),V m,V t,I J mi,Z fo nf fZ,I J ln,Z bo nb fV],V a] w fun e w'=>e=Y (.tuple #[V ⟨v.toArray⟩,.bool (decide (c=0))])∧Below w.heap.size w w':=by
 have j:=(ar _ w).alloc (am _) (K #[Q (M ⟨g,0,U⟩),V m,V t,I J mi,Z fo nf fZ,I J ln,Z bo nb fV] 185);have d:=vQ l a fo fZ nf _ (h.a j).d h.f (by have:=h.c;omega) h.b n;rw[GZ,GY,p] at d;unfold lW at d;have y:((c:Int) != 9)=true:=by rw[dh];omega
 have z:(w.alloc (K #[Q (M ⟨g,0,U⟩),V m,V t,I J mi,Z fo nf fZ,I J ln,Z bo nb fV] 185)).cell? ⟨w.heap.size,4,U⟩=M (Z fo nf fZ):=World.cell?_alloc_mark w _ _ _ 4;generalize (⟨v.toArray⟩:ae)=B at *;have q:Hid (∃b:Bool,((c:Int)==0)=b∧decide (c=0)=b):=by
  by_cases k:c=0
  . subst k;exact⟨true,rfl,rfl⟩
  . exact⟨F,by rw[aO];omega,aX k⟩
 obtain⟨b,C,r⟩:=q.o;rw[r];go_enter func151,ntmps151;go_wp2_with fail;refine d.mono ?_;rintro e s ⟨rfl,f⟩;have i:=au j f;go_wp2_with fail;refine(fT 400 U 0 0 s).mono ?_;rintro e D ⟨rfl,u⟩;rw[u];go_wp2;go_ret2;exact⟨rfl,i⟩
theorem BM (a:ae)(b:a.size<=2000)(h:fX w l fo fZ nf){v:ab}(c:ba (aQ a l)=(v,0)):
 Calls prog 151 #[.agg #[Q (M ⟨g,0,U⟩),V m,V t,I J mi,Z fo nf fZ,I J ln,Z bo nb fV],V a] w fun e w'=>e=Y (.tuple #[V ⟨v.toArray⟩,.bool true])∧Below w.heap.size w w':=rt a b h c (by decide)
theorem EC (a:ae)(b:a.size<=2000)(h:fX w l fo fZ nf){v:ab}(c:ba (aQ a l)=(v,10)):
 Calls prog 151 #[.agg #[Q (M ⟨g,0,U⟩),V m,V t,I J mi,Z fo nf fZ,I J ln,Z bo nb fV],V a] w fun e w'=>e=Y (.tuple #[V ⟨v.toArray⟩,.bool F])∧Below w.heap.size w w':=rt a b h c (by decide)
theorem ru (a:ae)(k:a.size<=2000)(h:fX w l fo fZ nf){v:ab}(o:ba (aQ a l)=(v,9)):
 Calls prog 151 #[.agg #[Q (M ⟨g,0,U⟩),V m,V t,I J mi,Z fo nf fZ,I J ln,Z bo nb fV],V a] w fun e w'=>gK w (bR 400 []) e w':=by
 have f:=(ar _ w).alloc (am _) (K #[Q (M ⟨g,0,U⟩),V m,V t,I J mi,Z fo nf fZ,I J ln,Z bo nb fV] 185);have b:=vQ l a fo fZ nf _ (h.a f).d h.f (by have:=h.c;omega) h.b k;rw[GZ,GY,o] at b;unfold lW at b;have s:(w.alloc (K #[Q (M ⟨g,0,U⟩),V m,V t,I J mi,Z fo nf fZ,I J ln,Z bo nb fV] 185)).cell? ⟨w.heap.size,4,U⟩=M (Z fo nf fZ):=World.cell?_alloc_mark w _ _ _ 4;generalize (⟨v.toArray⟩:ae)=u at *;go_enter func151,ntmps151;go_wp2_with fail;refine b.mono ?_;rintro e p ⟨rfl,c⟩;have d:=au f c;go_wp2_with fail;refine(iC 400 400 rfl p).mono ?_;rintro e x i;have q:=i.e d;obtain⟨y,r,n,j,_,_,_⟩:=i;unfold bS at j;subst j;go_wp2;exact⟨rfl,q⟩
end
theorem GV (a:List ae):(ba a).2=0∨(ba a).2=9∨(ba a).2=10:=by
 unfold ba;split
 . exact R (R rfl)
 . exact A rfl
 . exact R (A rfl)
theorem sv {a b:ae}(h:aY a.data.toList=aY b.data.toList)(l:aC):aQ a l=aQ b l:=by unfold aQ;rw[h]
theorem sA (l:aC):aQ fu l=aQ oU l:=sv (by decide +kernel) l
theorem ve (l:aC):aQ gC l=aQ gd l:=sv (by decide +kernel) l
theorem P7 (l:aC):aQ gD l=aQ ns l:=sv (by decide +kernel) l
theorem GW (l:aC):aQ ir l=aQ qU l:=sv (by decide +kernel) l
theorem P8 (l:aC):aQ dm l=aQ xH l:=sv (by decide +kernel) l
def su:ae:=⟨#[67,111,110,116,101,110,116,45,84,121,112,101]⟩
theorem Bi (l:aC):aQ su l=aQ jM l:=sv (by decide +kernel) l
section
variable {g:Nat} {m t:ae} {mi ln:Int} {l:aC} {fo:ag} {fZ nf:Nat} {bo:ag} {fV nb:Nat} {w:X}
theorem fX.e (h:fX w l fo fZ nf)(a:ae):(ba (aQ a l)).1.length<=2000:=Qa l a 2000 (fun p b=>(h.b p b).2)
theorem rC {w W:X}(a:Below (w.alloc (K #[Q (M ⟨g,0,U⟩),V m,V t,I J mi,Z fo nf fZ,I J ln,Z bo nb fV] 185)).heap.size (w.alloc (K #[Q (M ⟨g,0,U⟩),V m,V t,I J mi,Z fo nf fZ,I J ln,Z bo nb fV] 185)) W):W.cell? ⟨w.heap.size,0,U⟩=M (Q (M ⟨g,0,U⟩))∧W.cell? ⟨w.heap.size,1,U⟩=M (V m)∧W.cell? ⟨w.heap.size,2,U⟩=M (V t)∧W.cell? ⟨w.heap.size,3,U⟩=M (I J mi)∧W.cell? ⟨w.heap.size,4,U⟩=M (Z fo nf fZ)∧W.cell? ⟨w.heap.size,5,U⟩=M (I J ln)∧W.cell? ⟨w.heap.size,6,U⟩=M (Z bo nb fV):=by
 have r:=(a.block w.heap.size (by simp)).trans (be w _);exact⟨aq W _ 0 _ _ _ r,aq W _ 1 _ _ _ r,aq W _ 2 _ _ _ r,aq W _ 3 _ _ _ r,aq W _ 4 _ _ _ r,aq W _ 5 _ _ _ r,aq W _ 6 _ _ _ r⟩
theorem BR (a:ae)(j:a.size<=2000)(h:fX w l fo fZ nf)(f:(ba (aQ a l)).2=10):
 Calls prog 213 #[.agg #[Q (M ⟨g,0,U⟩),V m,V t,I J mi,Z fo nf fZ,I J ln,Z bo nb fV],V a] w fun e w'=>e=Y (.tuple #[I J 0,.bool F])∧Below w.heap.size w w':=by
 have i:=(ar _ w).alloc (am _) (K #[Q (M ⟨g,0,U⟩),V m,V t,I J mi,Z fo nf fZ,I J ln,Z bo nb fV] 185);generalize k:ba (aQ a l)=r at *;obtain⟨v,c⟩:=r;simp only at f;subst f;have n:=rC (g:=g) (m:=m) (t:=t) (mi:=mi) (ln:=ln) (fo:=fo) (fZ:=fZ) (nf:=nf) (bo:=bo) (fV:=fV) (nb:=nb) (w:=w) (ar _ _);generalize (⟨v.toArray⟩:ae)=o at *;go_enter func213,ntmps213;go_wp2_with fail;refine(EC a j (h.a i) k).mono ?_;rintro e p ⟨rfl,b⟩;have d:=au i b;go_wp2;go_ret2;exact⟨rfl,d⟩
theorem Cp (a:ae)(s:a.size<=2000)(h:fX w l fo fZ nf)(o:(ba (aQ a l)).2≠10){x:Int}(i:dg (ba (aQ a l))=(x,true)):
 Calls prog 213 #[.agg #[Q (M ⟨g,0,U⟩),V m,V t,I J mi,Z fo nf fZ,I J ln,Z bo nb fV],V a] w fun e w'=>e=Y (.tuple #[I J x,.bool true])∧Below w.heap.size w w':=by
 have p:=(ar _ w).alloc (am _) (K #[Q (M ⟨g,0,U⟩),V m,V t,I J mi,Z fo nf fZ,I J ln,Z bo nb fV] 185);have u:=h.e a;generalize y:ba (aQ a l)=r at *;obtain⟨v,c⟩:=r;simp only at o u;unfold dg at i;rw[if_neg o] at i;injection i with d b;rw[hQ,bN] at b;obtain⟨b,f⟩:=b;simp only at d b f;subst f;have z:=BM (g:=g) (m:=m) (t:=t) (mi:=mi) (ln:=ln) (bo:=bo) (fV:=fV) (nb:=nb) a s (h.a p) y;have B:∀W,Calls prog 211 #[V ⟨v.toArray⟩] W fun e w'=>e=Y (.tuple #[I J x,.bool true])∧w'=W:=fun W=>by
  have:=sV ⟨v.toArray⟩ W (by show v.toArray.size<=_;rw[cx];unfold maxLen;omega);rw[show(⟨v.toArray⟩:ae).data.toList=v from by simp,d,b] at this;exact this
 have D:=rC (g:=g) (m:=m) (t:=t) (mi:=mi) (ln:=ln) (fo:=fo) (fZ:=fZ) (nf:=nf) (bo:=bo) (fV:=fV) (nb:=nb) (w:=w) (ar _ _);generalize (⟨v.toArray⟩:ae)=G at *;go_enter func213,ntmps213;go_wp2_with fail;refine z.mono ?_;rintro e q ⟨rfl,j⟩;have k:=au p j;go_wp2_with fail;refine(B q).mono ?_;rintro e C ⟨rfl,n⟩;rw[n];go_wp2_with fail;refine(fT 400 U 0 0 q).mono ?_;rintro e C ⟨rfl,n⟩;rw[n];go_wp2;go_ret2;exact⟨rfl,k⟩
theorem C2 (a:ae)(x:a.size<=2000)(h:fX w l fo fZ nf)(b:(dg (ba (aQ a l))).2=F):
 Calls prog 213 #[.agg #[Q (M ⟨g,0,U⟩),V m,V t,I J mi,Z fo nf fZ,I J ln,Z bo nb fV],V a] w fun e w'=>gK w (bR 400 []) e w':=by
 have i:=(ar _ w).alloc (am _) (K #[Q (M ⟨g,0,U⟩),V m,V t,I J mi,Z fo nf fZ,I J ln,Z bo nb fV] 185);have D:=h.e a;have j:=GV (aQ a l);generalize z:ba (aQ a l)=r at *;obtain⟨v,c⟩:=r;have T:=rC (g:=g) (m:=m) (t:=t) (mi:=mi) (ln:=ln) (fo:=fo) (fZ:=fZ) (nf:=nf) (bo:=bo) (fV:=fV) (nb:=nb) (w:=w) (ar _ _);simp only at j D;unfold dg at b;by_cases k:c=9
 . subst k;go_enter func213,ntmps213;go_wp2_with fail;refine(ru a x (h.a i) z).mono ?_;rintro e B d;have o:=d.e i;obtain⟨G,p,n,f,_,_,_⟩:=d;unfold bS at f;subst f;go_wp2;exact⟨rfl,o⟩
 . have H:c≠10:=fun e=>by subst e;rw[if_pos rfl] at b;cases b
   obtain rfl:c=0:=by omega
   rw[if_neg (by simp)] at b;have q:(bB 10 9 v).2=F:=by
    cases e:(bB 10 9 v).2 with
    | false=>rfl
    | true=>simp[e] at b
   have L:=BM (g:=g) (m:=m) (t:=t) (mi:=mi) (ln:=ln) (bo:=bo) (fV:=fV) (nb:=nb) a x (h.a i) z;have N:∀W,Calls prog 211 #[V ⟨v.toArray⟩] W fun e w'=>e=Y (.tuple #[I J (bB 10 9 v).1,.bool F])∧w'=W:=fun W=>by
    have:=sV ⟨v.toArray⟩ W (by show v.toArray.size<=_;rw[cx];unfold maxLen;omega);rw[show(⟨v.toArray⟩:ae).data.toList=v from by simp,q] at this;exact this
   generalize (bB 10 9 v).1=y at *;generalize (⟨v.toArray⟩:ae)=vb at *;go_enter func213,ntmps213;go_wp2_with fail;refine L.mono ?_;rintro e C ⟨rfl,s⟩;have u:=au i s;go_wp2_with fail;refine(N C).mono ?_;rintro e B ⟨rfl,S⟩;rw[S];go_wp2_with fail;refine(iC 400 400 rfl C).mono ?_;rintro e B d;have o:=d.e u;obtain⟨G,p,n,f,_,_,_⟩:=d;unfold bS at f;subst f;go_wp2;exact⟨rfl,o⟩
end
section
variable {g:Nat} {m t:ae} {mi ln:Int} {l:aC} {fo:ag} {fZ nf:Nat} {bo:ag} {fV nb:Nat} {w:X}
theorem gK.a {w a b:X}{r:iY}{e:Ending}(d:Below w.heap.size w a)(c:gK a r e b):Hid (gK w r e b)∧∃(ao:ag) (cap n:Nat),e=bS (r.1:Int) ao n cap:=by
 refine⟨c.e d,?_⟩;obtain⟨ao,cap,n,f,_⟩:=c;exact⟨ao,cap,n,f⟩
theorem GU {r:ab×Nat}(c:r.2≠10){x:Int}(a:dg r=(x,true)):0<=x:=by
 unfold dg at a;rw[if_neg c] at a;injection a with d b;rw[hQ] at b;rw[<-d];exact(tQ b.1).1
theorem GT {r:ab×Nat}(a:r.2=10):dg r=(-1,true):=by unfold dg;rw[if_pos a]
def sB (l:aC):Prop:=(ba (aQ ns l)).2=9∨((ba (aQ ns l)).2=0∧(ba (aQ ns l)).1≠kZ.data.toList)∨(0<=(dg (ba (aQ gd l))).1<->(ba (aQ ns l)).2=0)
theorem QT (h:fX w l fo fZ nf)(c:(dg (ba (aQ gd l))).2=F):
 Calls prog 207 #[.agg #[Q (M ⟨g,0,U⟩),V m,V t,I J mi,Z fo nf fZ,I J ln,Z bo nb fV]] w fun e w'=>gK w (bR 400 []) e w':=by
 have a:=(ar _ w).alloc (am _) (K #[Q (M ⟨g,0,U⟩),V m,V t,I J mi,Z fo nf fZ,I J ln,Z bo nb fV] 185);have j:=rC (g:=g) (m:=m) (t:=t) (mi:=mi) (ln:=ln) (fo:=fo) (fZ:=fZ) (nf:=nf) (bo:=bo) (fV:=fV) (nb:=nb) (w:=w) (ar _ _);go_enter func207,ntmps207;go_wp2_with fail;refine(C2 gC (by decide) (h.a a) (by rw[ve];exact c)).mono ?_;rintro e k d;obtain⟨f,p,i,n,b⟩:=d.a a;unfold bS at b;subst b;go_wp2;exact⟨rfl,f.o⟩
theorem QU (h:fX w l fo fZ nf)(hx:(dg (ba (aQ gd l))).2=true):
 (sB l->Calls prog 207 #[.agg #[Q (M ⟨g,0,U⟩),V m,V t,I J mi,Z fo nf fZ,I J ln,Z bo nb fV]] w fun e w'=>gK w (bR 400 []) e w') ∧
 (¬sB l->Calls prog 207 #[.agg #[Q (M ⟨g,0,U⟩),V m,V t,I J mi,Z fo nf fZ,I J ln,Z bo nb fV]] w fun e w'=>e=Y (I J (dg (ba (aQ gd l))).1)∧Below w.heap.size w w'):=by
 have T:=(ar _ w).alloc (am _) (K #[Q (M ⟨g,0,U⟩),V m,V t,I J mi,Z fo nf fZ,I J ln,Z bo nb fV] 185);have HC:∀W,Below (w.alloc (K #[Q (M ⟨g,0,U⟩),V m,V t,I J mi,Z fo nf fZ,I J ln,Z bo nb fV] 185)).heap.size (w.alloc (K #[Q (M ⟨g,0,U⟩),V m,V t,I J mi,Z fo nf fZ,I J ln,Z bo nb fV] 185)) W->W.cell? ⟨w.heap.size,0,U⟩=M (Q (M ⟨g,0,U⟩))∧W.cell? ⟨w.heap.size,1,U⟩=M (V m)∧W.cell? ⟨w.heap.size,2,U⟩=M (V t)∧W.cell? ⟨w.heap.size,3,U⟩=M (I J mi)∧W.cell? ⟨w.heap.size,4,U⟩=M (Z fo nf fZ)∧W.cell? ⟨w.heap.size,5,U⟩=M (I J ln)∧W.cell? ⟨w.heap.size,6,U⟩=M (Z bo nb fV):=fun W p=>rC p;obtain⟨x0,x1,x2,x3,x4,x5,x6⟩:=HC _ (ar _ _);have key:∃(y:Int) (f:Bool),Hid ((dg (ba (aQ gd l))).1=(if f then y else -1)∧(f=true->0<=y))∧∀W,Below w.heap.size w W->Calls prog 213 #[.agg #[Q (M ⟨g,0,U⟩),V m,V t,I J mi,Z fo nf fZ,I J ln,Z bo nb fV],V gC] W fun e w'=>e=Y (.tuple #[I J y,.bool f])∧Below W.heap.size W w':=by
  by_cases hc:(ba (aQ gd l)).2=10
  . exact⟨0,F,⟨by rw[GT hc];rfl,fun e=>by cases e⟩,fun W p=>BR gC (by decide) (h.a p) (by rw[ve];exact hc)⟩
  . generalize hy:dg (ba (aQ gd l))=r at *;obtain⟨y,b⟩:=r;simp only at hx;subst hx;exact⟨y,true,⟨rfl,fun _=>GU hc hy⟩,fun W p=>Cp gC (by decide) (h.a p) (by rw[ve];exact hc) (by rw[ve];exact hy)⟩
 obtain⟨y,f,D,Uf⟩:=key;have OO:=Uf _ T;unfold gC at OO;have hco:=GV (aQ ns l);unfold sB;generalize hv:ba (aQ ns l)=r at *;obtain⟨v,c⟩:=r;have G:ba (aQ gD l)=(v,c):=by rw[P7];exact hv
 simp only at hco;generalize (dg (ba (aQ gd l))).1=z at *;rcases hco with rfl | rfl | rfl
 . have B:∀W,Below w.heap.size w W->Calls prog 151 #[.agg #[Q (M ⟨g,0,U⟩),V m,V t,I J mi,Z fo nf fZ,I J ln,Z bo nb fV],V gD] W fun e w'=>e=Y (.tuple #[V ⟨v.toArray⟩,.bool true])∧Below W.heap.size W w':=fun W p=>BM gD (by decide) (h.a p) G;unfold gD at B;obtain⟨b1,hb1⟩:∃b,((⟨v.toArray⟩:ae).toList==([49]:ab))=b:=⟨_,rfl⟩;have e1:v=kZ.data.toList<->b1=true:=by rw[<-hb1];exact xF v _
   generalize (⟨v.toArray⟩:ae)=vb at *;refine⟨fun q=>?_,fun s=>?_⟩
   . have yN:=aa q;go_enter func207,ntmps207;go_wp2_with fail;refine OO.mono ?_;rintro e C ⟨rfl,a⟩;have d:=au T a;obtain⟨x0,x1,x2,x3,x4,x5,x6⟩:=HC _ a;go_wp2_with fail;refine(B C d).mono ?_;rintro e k ⟨rfl,j⟩;have i:=au d j;cases b1 with
     | false =>
       go_wp2_with fail;refine(iC 400 400 rfl k).mono ?_;rintro e w9 H;obtain⟨L,ao,N,n,u⟩:=H.a i;unfold bS at u;subst u;go_wp2;exact⟨rfl,L.o⟩
     | true =>
       go_wp2_with fail;refine(fT 400 U 0 0 k).mono ?_;rintro e w3 ⟨rfl,x⟩;rw[x];cases f with
       | false =>
         exfalso;have S:=yN.o;have h2:=D.o.1;simp only[xP,if_false] at h2;rcases S with S | S | S
         . cases S
         . exact S.2 (e1.2 (by first | exact rfl | trivial))
         . have:=S.2 (by first | exact rfl | trivial);omega
       | true =>
         go_wp2_with fail;refine(iC 400 400 rfl k).mono ?_;rintro e w9 H;obtain⟨L,ao,N,n,u⟩:=H.a i;unfold bS at u;subst u;go_wp2;exact⟨rfl,L.o⟩
   . have sw:=aa s;have hb:b1=true:=by
      cases b1 with
      | true=>rfl
      | false=>exact absurd (R (A ⟨rfl,fun e=>by have:=e1.1 e;cases this⟩)) sw.o
     subst hb;have ht:f=F:=by
      cases f with
      | false=>rfl
      | true =>
        refine absurd (R (R ⟨fun _=>rfl,fun _=>?_⟩)) sw.o;have h2:=D.o.1;have h3:=D.o.2 rfl;rw[h2];exact h3
     subst ht;have hz:z=-1:=D.o.1;subst hz;go_enter func207,ntmps207;go_wp2_with fail;refine OO.mono ?_;rintro e C ⟨rfl,a⟩;have d:=au T a;obtain⟨x0,x1,x2,x3,x4,x5,x6⟩:=HC _ a;go_wp2_with fail;refine(B C d).mono ?_;rintro e k ⟨rfl,j⟩;have i:=au d j;go_wp2_with fail;refine(fT 400 U 0 0 k).mono ?_;rintro e w3 ⟨rfl,x⟩;rw[x];go_wp2_with fail;refine(fT 400 U 0 0 k).mono ?_;rintro e w3 ⟨rfl,x⟩;rw[x];go_wp2;go_ret;exact⟨rfl,i⟩
 . refine⟨fun _=>?_,fun s=>absurd (A rfl) s⟩;have B:∀W,Below w.heap.size w W->Calls prog 151 #[.agg #[Q (M ⟨g,0,U⟩),V m,V t,I J mi,Z fo nf fZ,I J ln,Z bo nb fV],V gD] W fun e w'=>gK W (bR 400 []) e w':=fun W p=>ru gD (by decide) (h.a p) G;unfold gD at B;go_enter func207,ntmps207;go_wp2_with fail;refine OO.mono ?_;rintro e C ⟨rfl,a⟩;have d:=au T a;obtain⟨x0,x1,x2,x3,x4,x5,x6⟩:=HC _ a;go_wp2_with fail;refine(B C d).mono ?_;rintro e w9 H;obtain⟨L,ao,N,n,u⟩:=H.a d;unfold bS at u;subst u;go_wp2;exact⟨rfl,L.o⟩
 . have B:∀W,Below w.heap.size w W->Calls prog 151 #[.agg #[Q (M ⟨g,0,U⟩),V m,V t,I J mi,Z fo nf fZ,I J ln,Z bo nb fV],V gD] W fun e w'=>e=Y (.tuple #[V ⟨v.toArray⟩,.bool F])∧Below W.heap.size W w':=fun W p=>EC gD (by decide) (h.a p) G;unfold gD at B;generalize (⟨v.toArray⟩:ae)=vb at *;cases f with
   | false =>
     have hz:z=-1:=D.o.1;refine⟨fun _=>?_,fun s=>absurd (R (R ⟨fun e=>by omega,fun e=>by cases e⟩)) s⟩;go_enter func207,ntmps207;go_wp2_with fail;refine OO.mono ?_;rintro e C ⟨rfl,a⟩;have d:=au T a;obtain⟨x0,x1,x2,x3,x4,x5,x6⟩:=HC _ a;go_wp2_with fail;refine(B C d).mono ?_;rintro e k ⟨rfl,j⟩;have i:=au d j;go_wp2_with fail;refine(fT 400 U 0 0 k).mono ?_;rintro e w3 ⟨rfl,x⟩;rw[x];go_wp2_with fail;refine(iC 400 400 rfl k).mono ?_;rintro e w9 H;obtain⟨L,ao,N,n,u⟩:=H.a i;unfold bS at u;subst u;go_wp2;exact⟨rfl,L.o⟩
   | true =>
     have hz:z=y:=D.o.1;subst hz;have hpos:=D.o.2 rfl;refine⟨fun q=>?_,fun _=>?_⟩
     . exfalso;rcases q with e | e | e
       . cases e
       . cases e.1
       . have:=e.1 hpos;cases this
     go_enter func207,ntmps207;go_wp2_with fail;refine OO.mono ?_;rintro e C ⟨rfl,a⟩;have d:=au T a;obtain⟨x0,x1,x2,x3,x4,x5,x6⟩:=HC _ a;go_wp2_with fail;refine(B C d).mono ?_;rintro e k ⟨rfl,j⟩;have i:=au d j;go_wp2_with fail;refine(fT 400 U 0 0 k).mono ?_;rintro e w3 ⟨rfl,x⟩;rw[x];go_wp2_with fail;refine(fT 400 U 0 0 k).mono ?_;rintro e w3 ⟨rfl,x⟩;rw[x];go_wp2;go_ret;exact⟨rfl,i⟩
end
def kt (s:ae):Bool:=decide (7<=s.size)&&decide (s.data.toList.take 7=ku.data.toList)
theorem BO (s:ae)(w:X)(g:s.size<=100000):Calls prog 148 #[V s,V ⟨#[47,102,105,108,101,115,47]⟩] w fun e w'=>e=Y (.bool (kt s))∧w'=w:=by
 by_cases d:7<=s.size
 . have a:(7:Int)<=(s.size:Int):=by omega
   obtain⟨b,f⟩:∃b,((s.extract 0 7).toList==([47,102,105,108,101,115,47]:ab))=b:=⟨_,rfl⟩;have c:Hid (kt s=b):=by
    unfold Hid kt;rw[bq d,Bool.true_and,<-f,Qf];rw[ix,bN,cJ];rfl
   rw[c.o];go_enter func148,ntmps148;go_wp2;go_ret;exact⟨rfl,rfl⟩
 . have a:¬(7:Int)<=(s.size:Int):=by omega
   have c:Hid (kt s=F):=by
    unfold Hid kt;rw[aX d,Bool.false_and]
   rw[c.o];go_enter func148,ntmps148;go_wp2;go_ret;exact⟨rfl,rfl⟩
theorem B0 (s:ae)(w:X)(a:s.size<=100000):Calls prog 95 #[V s,V ⟨#[47,102,105,108,101,115,47]⟩] w fun e w'=>e=Y (.bool (kt s))∧w'=w:=by
 have c:=aa (BO s w a);generalize kt s=b at *;go_enter func95,ntmps95;go_wp2_with fail;refine c.o.mono ?_;rintro e f ⟨rfl,d⟩;rw[d];go_wp2;go_ret;exact⟨rfl,rfl⟩
theorem QV (s:ae)(w:X)(a:s.size<=100000):Calls prog 172 #[V s] w fun e w'=>e=Y (.bool (sy s))∧w'=w:=by
 have d:=aa (B0 s w a);obtain⟨b,f⟩:∃b,(s.toList==([47,102,105,108,101,115]:ab))=b:=⟨_,rfl⟩;have g:s=od<->b=true:=by rw[<-f];exact oc s od _ rfl
 have i:Hid (sy s=(b||kt s)):=by
  unfold Hid sy;rw[show decide (s=od)=b from by rw[ix,bN];exact g];rfl
 rw[i.o];generalize kt s=c at *;cases b with
 | true =>
   go_enter func172,ntmps172;go_wp2;go_ret;exact⟨rfl,rfl⟩
 | false =>
   go_enter func172,ntmps172;go_wp2_with fail;refine d.o.mono ?_;rintro e k ⟨rfl,j⟩;rw[j];go_wp2;go_ret;exact⟨by simp,rfl⟩
theorem M5 (s:ae)(w:X)(d:s.size<=100000)(a:kt s=true):Calls prog 210 #[V s,V ⟨#[47,102,105,108,101,115,47]⟩] w fun e w'=>e=Y (.tuple #[V (s.extract 7 s.size),.bool true])∧w'=w:=by
 have c:=aa (BO s w d);rw[a] at c;have j:7<=s.size:=by
  unfold kt at a;rw[hQ,bN] at a;exact a.1
 have f:(7:Int)<=(s.size:Int):=by omega
 have g:Hid (Calls prog 267 #[V s,V ⟨#[47,102,105,108,101,115,47]⟩] w fun e w'=>e=Y (.tuple #[V (s.extract 7 s.size),.bool true])∧w'=w):=by
  unfold Hid;go_enter func267,ntmps267;go_wp2_with fail;refine c.o.mono ?_;rintro e i ⟨rfl,b⟩;rw[b];go_wp2;go_ret2;exact⟨rfl,rfl⟩
 generalize s.extract 7 s.size=x at *;go_enter func210,ntmps210;go_wp2_with fail;refine g.o.mono ?_;rintro e i ⟨rfl,b⟩;rw[b];go_wp2;go_ret2;exact⟨rfl,rfl⟩
theorem QW (s:ae)(w:X)(c:s.size<=100000)(d:kt s=F):Calls prog 210 #[V s,V ⟨#[47,102,105,108,101,115,47]⟩] w fun e w'=>e=Y (.tuple #[V s,.bool F])∧w'=w:=by
 have b:=aa (BO s w c);rw[d] at b;have f:Hid (Calls prog 267 #[V s,V ⟨#[47,102,105,108,101,115,47]⟩] w fun e w'=>e=Y (.tuple #[V s,.bool F])∧w'=w):=by
  unfold Hid;go_enter func267,ntmps267;go_wp2_with fail;refine b.o.mono ?_;rintro e g ⟨rfl,a⟩;rw[a];go_wp2;go_ret2;exact⟨rfl,rfl⟩
 go_enter func210,ntmps210;go_wp2_with fail;refine f.o.mono ?_;rintro e g ⟨rfl,a⟩;rw[a];go_wp2;go_ret2;exact⟨rfl,rfl⟩
inductive pa (S:Nat->Prop)(w:X)(g:Nat)(r:av×iY):Ending->X->Prop
 | ret {ao:ag} {cap n:Nat} {w':X} (hn:r.2.2.length=n) (hO:aL w' w.heap.size 148 2 ao cap n (aJ r.2.2)) (hat:aT w' (ay S w) g r.1) (hT:ak S w w'):pa S w g r (Y (.agg #[I J (r.2.1:Int),Z ao n cap,Z U 0 0])) w'
 | gave {ao:ag} {cap n:Nat} {w':X} (hn:r.2.2.length=n) (hO:aL w' w.heap.size 148 2 ao cap n (aJ r.2.2)) (hat:aT w' (ay S w) g r.1) (hT:ak S w w'):pa S w g r (bS (r.2.1:Int) ao n cap) w'
theorem pa.a {S:Nat->Prop}{w:X}{g:Nat}{r:av×iY}{e:Ending}{w':X}(h:vY aT S w g r e w'):pa S w g r e w':=by
 obtain⟨⟨i,b,n,rfl,c,d⟩,a,f⟩:=h;exact .ret c d a f
structure jU (w0 w:X)(S:Nat->Prop):Prop where
 c:di w0
 a:Below w0.heap.size w0 w
 b:∀k,S k->w0.heap.size<=k
section
variable {S S':Nat->Prop} {w0 w W W':X} {g:Nat} {bs:List Obj} {s:av}
theorem bW.mH {O:nB}(h:bW O S w g bs s S' W):∀k,S' k->ay S w k:=fun k e=>by
 rcases h.d k e with a | a
 . exact A a.1
 . exact R (by omega)
theorem bW.y {O:nB}(h:bW O S w g bs s S' W)(p:jU w0 w S):di W:=p.c.a (p.a.trans (h.h.below (fun k e=>p.b k e.1) p.a.size))
theorem bW.e (h:bW aT S w g bs s S' W){a:iY}{e:Ending}(c:gK W a e W'):Hid (pa S w g (s,a) e W')∧∃(ao:ag) (cap n:Nat),e=bS (a.1:Int) ao n cap:=by
 obtain⟨ao,cap,n,rfl,d,f,i⟩:=c;have b:=h.a bG i;exact⟨.gave d (f.j (co (dT _ _) h.c)) (b.b.a (fun k _ e=>b.mH k e)) (b.h.f (fun k e=>e.1)),ao,cap,n,rfl⟩
theorem bW.jL (h:bW aT S w g bs s S' W){r:av×iY}{ao:ag}{cap n:Nat}(c:r.2.2.length=n)(d:aL W' W.heap.size 148 2 ao cap n (aJ r.2.2))(a:aT W' (ay S' W) g r.1)(f:ak S' W W'):pa S w g r (bS (r.2.1:Int) ao n cap) W':=by
 have b:=h.j a f;exact .gave c (d.j (co (dT _ _) h.c)) (b.b.a (fun k _ e=>b.mH k e)) (b.h.f (fun k e=>e.1))
end
section
variable {g:Nat} {m t:ae} {mi ln:Int} {l:aC} {fo:ag} {fZ nf:Nat} {bo:ag} {fV nb:Nat} {w:X} {S:Nat->Prop} {s:av}
theorem xq (h:aT w S g s)(a:Obj):bW aT S w g [K #[Q (M ⟨g,0,U⟩),V m,V t,I J mi,Z fo nf fZ,I J ln,Z bo nb fV] 185 (0,0),a] s (fun k=>S k∧k<w.heap.size) ((w.alloc (K #[Q (M ⟨g,0,U⟩),V m,V t,I J mi,Z fo nf fZ,I J ln,Z bo nb fV] 185)).alloc a):=by
 have b:(w.alloc (K #[Q (M ⟨g,0,U⟩),V m,V t,I J mi,Z fo nf fZ,I J ln,Z bo nb fV] 185)).heap.size=w.heap.size+1:=bu ..;exact((bW.G bG h).q bG rfl (fun k e=>e.2) _).q bG b (fun k e=>by rw[b];have:=e.2;omega) _
theorem bW.jZ {bs:List Obj}{S':Nat->Prop}{a:av}{W:X}(h:bW aT S w g (K #[Q (M ⟨g,0,U⟩),V m,V t,I J mi,Z fo nf fZ,I J ln,Z bo nb fV] 185 (0,0)::bs) a S' W):W.cell? ⟨w.heap.size,0,U⟩=M (Q (M ⟨g,0,U⟩))∧W.cell? ⟨w.heap.size,1,U⟩=M (V m)∧W.cell? ⟨w.heap.size,2,U⟩=M (V t)∧W.cell? ⟨w.heap.size,3,U⟩=M (I J mi)∧W.cell? ⟨w.heap.size,4,U⟩=M (Z fo nf fZ)∧W.cell? ⟨w.heap.size,5,U⟩=M (I J ln)∧W.cell? ⟨w.heap.size,6,U⟩=M (Z bo nb fV):=by
 have r:=h.B 0 rfl;exact⟨aq W _ 0 _ _ _ r,aq W _ 1 _ _ _ r,aq W _ 2 _ _ _ r,aq W _ 3 _ _ _ r,aq W _ 4 _ _ _ r,aq W _ 5 _ _ _ r,aq W _ 6 _ _ _ r⟩
theorem B6 (h:aT w S g s)(ok:aK s)(hP:di w)(ht:t.size<=100000):
 (lJ s.h t=U->Calls prog 155 #[.agg #[Q (M ⟨g,0,U⟩),V m,V t,I J mi,Z fo nf fZ,I J ln,Z bo nb fV]] w fun e w'=>gK w (bR 404 []) e w') ∧
 (∀u,lJ s.h t=M u->Calls prog 155 #[.agg #[Q (M ⟨g,0,U⟩),V m,V t,I J mi,Z fo nf fZ,I J ln,Z bo nb fV]] w fun e w'=>∃(ao:ag) (cap:Nat),e=Y (.agg #[I J u.c,I J u.a,V u.d,Z ao u.b.length cap,I J u.e])∧Below w.heap.size w w'):=by
 have T2:bW aT S w g [K #[Q (M ⟨g,0,U⟩),V m,V t,I J mi,Z fo nf fZ,I J ln,Z bo nb fV] 185 (0,0),K #[I J 0,I J 0,V ⟨#[]⟩,Z U 0 0,I J 0] 92] s (fun k=>S k∧k<w.heap.size) ((w.alloc (K #[Q (M ⟨g,0,U⟩),V m,V t,I J mi,Z fo nf fZ,I J ln,Z bo nb fV] 185)).alloc (K #[I J 0,I J 0,V ⟨#[]⟩,Z U 0 0,I J 0] 92)):=xq h _;have z:Below w.heap.size w ((w.alloc (K #[Q (M ⟨g,0,U⟩),V m,V t,I J mi,Z fo nf fZ,I J ln,Z bo nb fV] 185)).alloc (K #[I J 0,I J 0,V ⟨#[]⟩,Z U 0 0,I J 0] 92)):=au ((ar _ w).alloc (am _) _) ((ar _ _).alloc (am _) _);have HC:∀W,bW aT S w g [K #[Q (M ⟨g,0,U⟩),V m,V t,I J mi,Z fo nf fZ,I J ln,Z bo nb fV] 185 (0,0),K #[I J 0,I J 0,V ⟨#[]⟩,Z U 0 0,I J 0] 92] s (fun k=>S k∧k<w.heap.size) W->W.cell? ⟨w.heap.size,0,U⟩=M (Q (M ⟨g,0,U⟩))∧W.cell? ⟨w.heap.size,1,U⟩=M (V m)∧W.cell? ⟨w.heap.size,2,U⟩=M (V t)∧W.cell? ⟨w.heap.size,3,U⟩=M (I J mi)∧W.cell? ⟨w.heap.size,4,U⟩=M (Z fo nf fZ)∧W.cell? ⟨w.heap.size,5,U⟩=M (I J ln)∧W.cell? ⟨w.heap.size,6,U⟩=M (Z bo nb fV):=fun W L=>L.jZ;obtain⟨x0,x1,x2,x3,x4,x5,x6⟩:=HC _ T2;obtain⟨gs,gl,lo,lca,P,hI⟩:=h;have HG:∀W,Below w.heap.size w W->W.cell? ⟨g,0,U⟩=M (Q (M ⟨gs,0,U⟩))∧cC W P gs s.h:=fun W L=>⟨aq W _ 0 _ _ _ (hI.e L).a,(hI.e L).d⟩;cases q:kt t with
 | false =>
   have B:∀W,Calls prog 210 #[V t,V ⟨#[47,102,105,108,101,115,47]⟩] W fun e w'=>e=Y (.tuple #[V t,.bool F])∧w'=W:=fun W=>QW t W ht q;have oD:∀W,Calls prog 211 #[V t] W fun e w'=>e=Y (.tuple #[I J (bB 10 9 t.data.toList).1,.bool (bB 10 9 t.data.toList).2])∧w'=W:=fun W=>sV t W (by unfold maxLen;omega);have c:lJ s.h t=U:=GX (fun x=>by
    unfold kt at q;rw[bq (by omega:7<=t.size),Bool.true_and,cz] at q;exact q x.2.1) s.h
   refine⟨fun _=>?_,fun u r=>by rw[c] at r;cases r⟩;generalize bB 10 9 t.data.toList=rn at *;obtain⟨n,okn⟩:=rn;go_enter func155,ntmps155;go_wp2_with fail;refine(B _).mono ?_;rintro e C ⟨rfl,a⟩;rw[a];go_wp2_with fail;refine(oD _).mono ?_;rintro e C ⟨rfl,a⟩;rw[a];go_wp2_with fail;refine(iC 404 404 rfl _).mono ?_;rintro e w9 T;obtain⟨NH,jE,gZ,n9,G⟩:=T.a z;unfold bS at G;subst G;go_wp2;exact⟨rfl,NH.o⟩
 | true =>
   have B:∀W,Calls prog 210 #[V t,V ⟨#[47,102,105,108,101,115,47]⟩] W fun e w'=>e=Y (.tuple #[V (t.extract 7 t.size),.bool true])∧w'=W:=fun W=>M5 t W ht q;have oD:∀W,Calls prog 211 #[V (t.extract 7 t.size)] W fun e w'=>e=Y (.tuple #[I J (bB 10 9 (t.data.toList.drop 7)).1,.bool (bB 10 9 (t.data.toList.drop 7)).2])∧w'=W:=fun W=>by
    have:=sV (t.extract 7 t.size) W (by rw[ByteArray.size_extract];unfold maxLen;omega);rw[G2] at this;exact this
   have hin2:t.data.toList.take 7=ku.data.toList:=by
    unfold kt at q;rw[hQ,bN,bN] at q;exact q.2
   have hsm:(bB 10 9 (t.data.toList.drop 7)).2=true->0<=(bB 10 9 (t.data.toList.drop 7)).1∧(bB 10 9 (t.data.toList.drop 7)).1<1000000000∧7<t.size:=fun e=>⟨(tQ e).1,(tQ e).2,by
    rcases eI 7 t.size with h | h
    . exact h
    . exfalso;rw[oV (by rw[cI];exact h)] at e;revert e;decide⟩
   have hno:((bB 10 9 (t.data.toList.drop 7)).2=F∨bw 8 (bB 10 9 (t.data.toList.drop 7)).1.toNat≠t.data.toList.drop 7)->lJ s.h t=U:=fun e=>GX (fun x=>e.elim (fun e=>by have h3:=x.2.2.1;rw[e] at h3;cases h3) (fun e=>e x.2.2.2)) s.h;have hye:=fun(h7:7<t.size) (e:(bB 10 9 (t.data.toList.drop 7)).2=true) (e2:bw 8 (bB 10 9 (t.data.toList.drop 7)).1.toNat=t.data.toList.drop 7)=>P4 (t:=t) ⟨h7,hin2,e,e2⟩ s.h;generalize bB 10 9 (t.data.toList.drop 7)=rn at *;obtain⟨n,okn⟩:=rn;simp only at hsm hno hye;cases okn with
   | false =>
     have c:=hno (A rfl);refine⟨fun _=>?_,fun u r=>by rw[c] at r;cases r⟩;generalize t.extract 7 t.size=nm at *;go_enter func155,ntmps155;go_wp2_with fail;refine(B _).mono ?_;rintro e C ⟨rfl,a⟩;rw[a];go_wp2_with fail;refine(oD _).mono ?_;rintro e C ⟨rfl,a⟩;rw[a];go_wp2_with fail;refine(iC 404 404 rfl _).mono ?_;rintro e w9 T;obtain⟨NH,jE,gZ,n9,G⟩:=T.a z;unfold bS at G;subst G;go_wp2;exact⟨rfl,NH.o⟩
   | true =>
     obtain⟨hn0,hn1,h7⟩:=hsm rfl;have YB:∀W,Below w.heap.size w W->Calls prog 141 #[I J n] W fun e w'=>e=Y (V (eW n.toNat))∧Below W.heap.size W w':=fun W L=>by
      have:=mD n.toNat (by omega) W (hP.a L);rw[show((n.toNat:Nat):Int)=n from by omega] at this;exact this
     have HI2:=YB _ z;obtain⟨bs,hbs⟩:∃b,((eW n.toNat).toList==(t.extract 7 t.size).toList)=b:=⟨_,rfl⟩;have eS:bw 8 n.toNat=t.data.toList.drop 7<->bs=true:=by
      rw[<-hbs,Lib.toList_data,Lib.toList_data,G2,cJ];rfl
     generalize eW n.toNat=nd at *;cases bs with
     | false =>
       have c:=hno (R (fun e=>by have:=eS.1 e;cases this));refine⟨fun _=>?_,fun u r=>by rw[c] at r;cases r⟩;generalize t.extract 7 t.size=nm at *;go_enter func155,ntmps155;go_wp2_with fail;refine(B _).mono ?_;rintro e C ⟨rfl,a⟩;rw[a];go_wp2_with fail;refine(oD _).mono ?_;rintro e C ⟨rfl,a⟩;rw[a];go_wp2_with fail;refine HI2.mono ?_;rintro e w3 ⟨rfl,y⟩;have j:=au z y;go_wp2_with fail;refine(iC 404 404 rfl _).mono ?_;rintro e w9 T;obtain⟨NH,jE,gZ,n9,G⟩:=T.a j;unfold bS at G;subst G;go_wp2;exact⟨rfl,NH.o⟩
     | true =>
       have r:=hye h7 rfl (eS.2 rfl);generalize t.extract 7 t.size=nm at *;cases hp:cE s.h.l n with
       | none =>
         rw[hp] at r;simp only at r;have Z5:∀W,Below w.heap.size w W->Calls prog 32 #[Q (M ⟨gs,0,U⟩),I J n] W fun e w'=>e=Y (.tuple #[.agg #[I J 0,I J 0,V ⟨#[]⟩,Z U 0 0,I J 0],.bool F])∧Below W.heap.size W w':=fun W L=>En s.h P gs n W (HG W L).2 ok.h hp;refine⟨fun _=>?_,fun u d=>by rw[r] at d;cases d⟩;go_enter func155,ntmps155;go_wp2_with fail;refine(B _).mono ?_;rintro e C ⟨rfl,a⟩;rw[a];go_wp2_with fail;refine(oD _).mono ?_;rintro e C ⟨rfl,a⟩;rw[a];go_wp2_with fail;refine HI2.mono ?_;rintro e w3 ⟨rfl,y⟩;have j:=au z y;have H3:=T2.a bG y;obtain⟨x0,x1,x2,x3,x4,x5,x6⟩:=HC _ H3;have g0:=(HG _ j).1;go_wp2_with fail;refine(fT 404 U 0 0 _).mono ?_;rintro e C ⟨rfl,a⟩;rw[a];go_wp2_with fail;refine(Z5 _ j).mono ?_;rintro e f ⟨rfl,N⟩;have jH:=au (au j N) ((ar _ f).alloc (am _) (K #[I J 0,I J 0,V ⟨#[]⟩,Z U 0 0,I J 0] 92));go_wp2_with fail;refine(iC 404 404 rfl _).mono ?_;rintro e w9 T;obtain⟨NH,jE,gZ,n9,G⟩:=T.a jH;unfold bS at G;subst G;go_wp2;exact⟨rfl,NH.o⟩
       | some i =>
         rw[hp] at r;simp only at r;have hi:=mu hp;rw[iA hi] at r;have Z5:∀W,Below w.heap.size w W->Calls prog 32 #[Q (M ⟨gs,0,U⟩),I J n] W fun e w'=>∃ao cap,e=Y (.tuple #[.agg #[I J s.h.l[i].c,I J s.h.l[i].a,V s.h.l[i].d,Z ao s.h.l[i].b.length cap,I J s.h.l[i].e],.bool true])∧az w' ao cap s.h.l[i].b∧Below W.heap.size W w':=fun W L=>yE s.h P gs n i W (HG W L).2 ok.h hp hi;generalize s.h.l[i]=u0 at *;refine⟨fun d=>(by rw[r] at d;cases d),fun u d=>?_⟩;rw[r] at d;injection d with d;subst d;generalize u0.b.length=D at *;go_enter func155,ntmps155;go_wp2_with fail;refine(B _).mono ?_;rintro e C ⟨rfl,a⟩;rw[a];go_wp2_with fail;refine(oD _).mono ?_;rintro e C ⟨rfl,a⟩;rw[a];go_wp2_with fail;refine HI2.mono ?_;rintro e w3 ⟨rfl,y⟩;have j:=au z y;have H3:=T2.a bG y;obtain⟨x0,x1,x2,x3,x4,x5,x6⟩:=HC _ H3;have g0:=(HG _ j).1;go_wp2_with fail;refine(fT 404 U 0 0 _).mono ?_;rintro e C ⟨rfl,a⟩;rw[a];go_wp2_with fail;refine(Z5 _ j).mono ?_;rintro e f ⟨ao,cap,rfl,_,N⟩;have hb5:=(ar _ f).alloc (am _) (K #[I J u0.c,I J u0.a,V u0.d,Z ao D cap,I J u0.e] 92);have oG:=au (au j N) hb5;have H:=((H3.a bG N).a bG hb5).B 1 rfl;have v0:(f.alloc (K #[I J u0.c,I J u0.a,V u0.d,Z ao D cap,I J u0.e] 92)).cell? ⟨f.heap.size,0,U⟩=M (I J u0.c):=World.cell?_alloc_mark f _ _ _ 0;have v1:(f.alloc (K #[I J u0.c,I J u0.a,V u0.d,Z ao D cap,I J u0.e] 92)).cell? ⟨f.heap.size,1,U⟩=M (I J u0.a):=World.cell?_alloc_mark f _ _ _ 1;have v2:(f.alloc (K #[I J u0.c,I J u0.a,V u0.d,Z ao D cap,I J u0.e] 92)).cell? ⟨f.heap.size,2,U⟩=M (V u0.d):=World.cell?_alloc_mark f _ _ _ 2;have v3:(f.alloc (K #[I J u0.c,I J u0.a,V u0.d,Z ao D cap,I J u0.e] 92)).cell? ⟨f.heap.size,3,U⟩=M (Z ao D cap):=World.cell?_alloc_mark f _ _ _ 3;have v4:(f.alloc (K #[I J u0.c,I J u0.a,V u0.d,Z ao D cap,I J u0.e] 92)).cell? ⟨f.heap.size,4,U⟩=M (I J u0.e):=World.cell?_alloc_mark f _ _ _ 4;have z0:=aq _ _ 0 _ _ _ H;have z1:=aq _ _ 1 _ _ _ H;have z2:=aq _ _ 2 _ _ _ H;have z3:=aq _ _ 3 _ _ _ H;have z4:=aq _ _ 4 _ _ _ H
         have y0:=aP _ _ 0 _ _ H;have y1:=aP _ _ 1 _ _ H;have y2:=aP _ _ 2 _ _ H;have y3:=aP _ _ 3 _ _ H;have y4:=aP _ _ 4 _ _ H
         simp at z0 z1 z2 z3 z4;go_upto_region 5 with fail
         generalize (f.alloc (K #[I J u0.c,I J u0.a,V u0.d,Z ao D cap,I J u0.e] 92))=w5 at *;generalize f.heap.size=k4 at *;go_wp2_with fail;refine(fT 404 U 0 0 _).mono ?_;rintro e C ⟨rfl,a⟩;rw[a];go_wp2;have hb6:=((((oG.setCell (p:=⟨w.heap.size+1,0,U⟩) (dT _ _) (I J u0.c)).setCell (p:=⟨w.heap.size+1,1,U⟩) (dT _ _) (I J u0.a)).setCell (p:=⟨w.heap.size+1,2,U⟩) (dT _ _) (V u0.d)).setCell (p:=⟨w.heap.size+1,3,U⟩) (dT _ _) (Z ao D cap)).setCell (p:=⟨w.heap.size+1,4,U⟩) (dT _ _) (I J u0.e);have Cu:=aR _ _ 4 _ _ (I J u0.e) (aR _ _ 3 _ _ (Z ao D cap) (aR _ _ 2 _ _ (V u0.d) (aR _ _ 1 _ _ (I J u0.a) (aR _ _ 0 _ _ (I J u0.c) H))));generalize (((((w5.setCell ⟨w.heap.size+1,0,U⟩ (Value.int J u0.c)).setCell ⟨w.heap.size+1,1,U⟩ (Value.int J u0.a)).setCell ⟨w.heap.size+1,2,U⟩ (Value.string u0.d)).setCell ⟨w.heap.size+1,3,U⟩ (Value.slice ao D cap)).setCell ⟨w.heap.size+1,4,U⟩ (Value.int J u0.e))=w6 at hb6 Cu ⊢;have r0:=aq w6 _ 0 _ _ _ Cu;have r1:=aq w6 _ 1 _ _ _ Cu;have r2:=aq w6 _ 2 _ _ _ Cu;have r3:=aq w6 _ 3 _ _ _ Cu;have r4:=aq w6 _ 4 _ _ _ Cu;exact aS (v:=.agg #[I J u0.c,I J u0.a,V u0.d,Z ao D cap,I J u0.e]) (by simp[results,results155,go_sem,r0,r1,r2,r3,r4]) rfl ⟨ao,cap,rfl,hb6⟩
end
section
variable {g:Nat} {m t:ae} {mi ln:Int} {l:aC} {fo:ag} {fZ nf:Nat} {bo:ag} {fV nb:Nat} {w:X}
theorem MF (h:fX w l fo fZ nf)(c:(ba (aQ jM l)).2=9):
 Calls prog 212 #[.agg #[Q (M ⟨g,0,U⟩),V m,V t,I J mi,Z fo nf fZ,I J ln,Z bo nb fV]] w fun e w'=>gK w (bR 400 []) e w':=by
 have a:=(ar _ w).alloc (am _) (K #[Q (M ⟨g,0,U⟩),V m,V t,I J mi,Z fo nf fZ,I J ln,Z bo nb fV] 185);have j:=rC (g:=g) (m:=m) (t:=t) (mi:=mi) (ln:=ln) (fo:=fo) (fZ:=fZ) (nf:=nf) (bo:=bo) (fV:=fV) (nb:=nb) (w:=w) (ar _ _);go_enter func212,ntmps212;go_wp2_with fail;refine(ru su (by decide) (h.a a) (v:=(ba (aQ jM l)).1) (by rw[Bi,<-c])).mono ?_;rintro e k d;obtain⟨f,p,i,n,b⟩:=d.a a;unfold bS at b;subst b;go_wp2;exact⟨rfl,f.o⟩
theorem Oo (h:fX w l fo fZ nf)(C:(ba (aQ jM l)).2≠9):
 (qR (ba (aQ jM l)).1=F->Calls prog 212 #[.agg #[Q (M ⟨g,0,U⟩),V m,V t,I J mi,Z fo nf fZ,I J ln,Z bo nb fV]] w fun e w'=>gK w (bR 415 []) e w') ∧
 (qR (ba (aQ jM l)).1=true->Calls prog 212 #[.agg #[Q (M ⟨g,0,U⟩),V m,V t,I J mi,Z fo nf fZ,I J ln,Z bo nb fV]] w fun e w'=>e=Y (.tuple #[])∧Below w.heap.size w w'):=by
 have q:=(ar _ w).alloc (am _) (K #[Q (M ⟨g,0,U⟩),V m,V t,I J mi,Z fo nf fZ,I J ln,Z bo nb fV] 185);have x0:=rC (g:=g) (m:=m) (t:=t) (mi:=mi) (ln:=ln) (fo:=fo) (fZ:=fZ) (nf:=nf) (bo:=bo) (fV:=fV) (nb:=nb) (w:=w) (ar _ _);have L:=h.e jM;generalize N:ba (aQ jM l)=r at *;obtain⟨v,c⟩:=r;simp only at L C;have s:=rt (g:=g) (m:=m) (t:=t) (mi:=mi) (ln:=ln) (bo:=bo) (fV:=fV) (nb:=nb) su (by decide) (h.a q) (by rw[Bi];exact N) C;unfold su at s;have D:∀W,Calls prog 269 #[V ⟨v.toArray⟩] W fun e w'=>tG W (ee v) e w':=fun W=>by
  have:=BN ⟨v.toArray⟩ W (by show v.toArray.size<=_;rw[cx];omega);rw[show(⟨v.toArray⟩:ae).data.toList=v from by simp] at this;exact this
 have n:∀word a code,Bn (ee v) word a code->(qR v=(word.toList==([97,112,112,108,105,99,97,116,105,111,110,47,111,102,102,115,101,116,43,111,99,116,101,116,45,115,116,114,101,97,109]:ab))):=fun word a code b=>by
  rw[ix,cJ,Lib.toList_data];unfold qR;cases G:ee v with
  | inl c =>
    rw[G] at b;obtain⟨S,u,T⟩:=b;subst u;constructor
    . intro e;cases e
    . intro e;simp at e
  | inr x =>
    rw[G] at b;obtain⟨S,u,T⟩:=b;simp only[bN];rw[u];rfl
 generalize decide (c=0)=cb at *;generalize (⟨v.toArray⟩:ae)=vb at *;generalize qR v=off at *;generalize ee v=md at *;refine⟨fun p=>?_,fun p=>?_⟩
 . subst p;go_enter func212,ntmps212;go_wp2_with fail;refine s.mono ?_;rintro e y ⟨rfl,d⟩;have f:=au q d;go_wp2_with fail;refine(D y).mono ?_;rintro e z ⟨word,a,B,i,code,rfl,b,_,j⟩;have p:=(n _ _ _ b).symm;have k:=au (au f j) ((ar _ z).alloc (am _) (K #[V word,Z B a.length i] 244));generalize a.length=np at *;go_wp2_with fail;refine(iC 415 415 rfl _).mono ?_;rintro e w9 hG;obtain⟨HG,jE,gZ,n9,H⟩:=hG.a k;unfold bS at H;subst H;go_wp2;exact⟨rfl,HG.o⟩
 . subst p;go_enter func212,ntmps212;go_wp2_with fail;refine s.mono ?_;rintro e y ⟨rfl,d⟩;have f:=au q d;go_wp2_with fail;refine(D y).mono ?_;rintro e z ⟨word,a,B,i,code,rfl,b,_,j⟩;have p:=(n _ _ _ b).symm;have k:=au (au f j) ((ar _ z).alloc (am _) (K #[V word,Z B a.length i] 244));generalize a.length=np at *;go_wp2_with fail;refine(fT 415 U 0 0 _).mono ?_;rintro e w9 ⟨rfl,hw⟩;rw[hw];go_wp2;go_end0
   exact⟨rfl,k⟩
theorem BG (f a sent x d:Int)(b:ae)(uo:ag)(un gQ:Nat)(w:X)(D:-1<=a):
 (0<=a->x≠a->Calls prog 214 #[.agg #[I J f,I J a,V b,Z uo un gQ,I J sent],I J x,I J d] w fun e w'=>gK w (bR 400 []) e w') ∧
 (a<0->(2000<x∨x<d)->Calls prog 214 #[.agg #[I J f,I J a,V b,Z uo un gQ,I J sent],I J x,I J d] w fun e w'=>gK w (bR 413 []) e w') ∧
 ((0<=a∧x=a)∨(a<0∧¬(2000<x∨x<d))->Calls prog 214 #[.agg #[I J f,I J a,V b,Z uo un gQ,I J sent],I J x,I J d] w fun e w'=>e=Y (.tuple #[])∧Below w.heap.size w w'):=by
 have i:=(ar _ w).alloc (am _) (K #[I J f,I J a,V b,Z uo un gQ,I J sent] 92);have G:(w.alloc (K #[I J f,I J a,V b,Z uo un gQ,I J sent] 92)).cell? ⟨w.heap.size,1,U⟩=M (I J a):=World.cell?_alloc_mark w _ _ _ 1;refine⟨fun q r=>?_,fun q y=>?_,fun s=>?_⟩
 . have n:(a != -1)=true:=by rw[dh];omega
   have u:(x==a)=F:=by rw[aO];exact r
   go_enter func214,ntmps214;go_wp2_with fail;refine(iC 400 400 rfl _).mono ?_;rintro e p j;obtain⟨k,z,B,C,c⟩:=j.a i;unfold bS at c;subst c;go_wp2;exact⟨rfl,k.o⟩
 . obtain rfl:a=-1:=by omega
   by_cases H:2000<x
   . have n:decide (x<=2000)=F:=by rw[cz];omega
     go_enter func214,ntmps214;go_wp2_with fail;refine(iC 413 413 rfl _).mono ?_;rintro e p j;obtain⟨k,z,B,C,c⟩:=j.a i;unfold bS at c;subst c;go_wp2;exact⟨rfl,k.o⟩
   . have n:decide (x<=2000)=true:=by rw[bN];omega
     have u:decide (x≥d)=F:=by rw[cz];omega
     go_enter func214,ntmps214;go_wp2_with fail;refine(iC 413 413 rfl _).mono ?_;rintro e p j;obtain⟨k,z,B,C,c⟩:=j.a i;unfold bS at c;subst c;go_wp2;exact⟨rfl,k.o⟩
 . rcases s with ⟨q,rfl⟩ | ⟨q,L⟩
   . have n:(x != -1)=true:=by rw[dh];omega
     have u:(x==x)=true:=by simp
     go_enter func214,ntmps214;go_wp2_with fail;refine(fT 400 U 0 0 _).mono ?_;rintro e p ⟨rfl,v⟩;rw[v];go_wp2;first | go_end0 | refine aS (results_none rfl _ _ _) rfl ?_
     exact⟨rfl,i⟩
   . obtain rfl:a=-1:=by omega
     have n:decide (x<=2000)=true:=by rw[bN];omega
     have u:decide (x≥d)=true:=by rw[bN];omega
     go_enter func214,ntmps214;go_wp2_with fail;refine(fT 413 U 0 0 _).mono ?_;rintro e p ⟨rfl,v⟩;rw[v];go_wp2;go_end0
     exact⟨rfl,i⟩
end
section
variable {g:Nat} {m t:ae} {mi ln:Int} {l:aC} {fo:ag} {fZ nf:Nat} {bo:ag} {fV nb:Nat} {w w0:X} {S:Nat->Prop} {s:av}
theorem FN (h:aT w S g s)(a b:Obj):bW aT S w g [K #[Q (M ⟨g,0,U⟩),V m,V t,I J mi,Z fo nf fZ,I J ln,Z bo nb fV] 185 (0,0),a,b] s (fun k=>S k∧k<w.heap.size) (((w.alloc (K #[Q (M ⟨g,0,U⟩),V m,V t,I J mi,Z fo nf fZ,I J ln,Z bo nb fV] 185)).alloc a).alloc b):=by
 have c:((w.alloc (K #[Q (M ⟨g,0,U⟩),V m,V t,I J mi,Z fo nf fZ,I J ln,Z bo nb fV] 185)).alloc a).heap.size=w.heap.size+2:=by rw[bu,bu]
 exact(xq h a).q bG c (fun k e=>by rw[c];have:=e.2;omega) _
theorem bW.nE {bs:List Obj}{S':Nat->Prop}{a:av}{W:X}{u:aN}{uo:ag}{un gQ:Nat}(h:bW aT S w g (K #[Q (M ⟨g,0,U⟩),V m,V t,I J mi,Z fo nf fZ,I J ln,Z bo nb fV] 185 (0,0)::K #[I J u.c,I J u.a,V u.d,Z uo un gQ,I J u.e] 92 (0,0)::bs) a S' W):W.cell? ⟨w.heap.size+1,0,U⟩=M (I J u.c)∧W.cell? ⟨w.heap.size+1,1,U⟩=M (I J u.a)∧W.cell? ⟨w.heap.size+1,2,U⟩=M (V u.d)∧W.cell? ⟨w.heap.size+1,3,U⟩=M (Z uo un gQ)∧W.cell? ⟨w.heap.size+1,4,U⟩=M (I J u.e):=by
 have r:=h.B 1 rfl;exact⟨aq W _ 0 _ _ _ r,aq W _ 1 _ _ _ r,aq W _ 2 _ _ _ r,aq W _ 3 _ _ _ r,aq W _ 4 _ _ _ r⟩
theorem B7 (h:aT w S g s)(ok:aK s)(u:aN)(uo:ag)(un gQ:Nat):
 Calls prog 158 #[.agg #[Q (M ⟨g,0,U⟩),V m,V t,I J mi,Z fo nf fZ,I J ln,Z bo nb fV],.agg #[I J u.c,I J u.a,V u.d,Z uo un gQ,I J u.e]] w fun e w'=>pa S w g (eG (gc s u.c).1,bR 204 []) e w':=by
 have c:bW aT S w g [K #[Q (M ⟨g,0,U⟩),V m,V t,I J mi,Z fo nf fZ,I J ln,Z bo nb fV] 185 (0,0),K #[I J u.c,I J u.a,V u.d,Z uo un gQ,I J u.e] 92 (0,0),K #[I J 0,Z U 0 0,Z U 0 0] 126 (0,0)] s (fun k=>S k∧k<w.heap.size) (((w.alloc (K #[Q (M ⟨g,0,U⟩),V m,V t,I J mi,Z fo nf fZ,I J ln,Z bo nb fV] 185)).alloc (K #[I J u.c,I J u.a,V u.d,Z uo un gQ,I J u.e] 92)).alloc (K #[I J 0,Z U 0 0,Z U 0 0] 126)):=FN h _ _;have j:∀W n p,bW aT S w g [K #[Q (M ⟨g,0,U⟩),V m,V t,I J mi,Z fo nf fZ,I J ln,Z bo nb fV] 185 (0,0),K #[I J u.c,I J u.a,V u.d,Z uo un gQ,I J u.e] 92 (0,0),K #[I J 0,Z U 0 0,Z U 0 0] 126 (0,0)] n p W->W.cell? ⟨w.heap.size,0,U⟩=M (Q (M ⟨g,0,U⟩))∧W.cell? ⟨w.heap.size,1,U⟩=M (V m)∧W.cell? ⟨w.heap.size,2,U⟩=M (V t)∧W.cell? ⟨w.heap.size,3,U⟩=M (I J mi)∧W.cell? ⟨w.heap.size,4,U⟩=M (Z fo nf fZ)∧W.cell? ⟨w.heap.size,5,U⟩=M (I J ln)∧W.cell? ⟨w.heap.size,6,U⟩=M (Z bo nb fV):=fun W n p C=>C.jZ;obtain⟨D,x1,x2,x3,x4,x5,x6⟩:=j _ _ _ c;have v0:=c.nE;have f:Hid ((eG (gc s u.c).1,bR 204 [])=(eG (gc s u.c).1,bR 204 [])):=by unfold Hid;rfl
 obtain⟨a,q⟩:∃a,a=(eG (gc s u.c).1,bR 204 []):=⟨_,rfl⟩;rw[<-q];have f:=aa q;go_enter func158,ntmps158;go_wp2_with fail;refine(BP c.b ok u.c).mono ?_;rintro e w4 ⟨rfl,G,H⟩;have d:=aa (c.j G H);generalize gc s u.c=L at *;obtain⟨sa,ca⟩:=L;simp only at f d ⊢;have D:=j _ _ _ d.o;go_wp2_with fail;refine(rl d.o.b).mono ?_;rintro e r ⟨rfl,N,T⟩;have x:=d.o.lG N T;go_wp2_with fail;refine(oq 204 204 rfl [] U 0 0 r (bx.j r) rfl (by decide)).mono ?_;rintro e w9 ⟨y,z,B,rfl,lT,kL,qw⟩;obtain⟨⟨z0,z1,z2,y0,y1,y2⟩,HE⟩:=x.f bG (i:=2) rfl (b:=w.heap.size+2) (by first | rfl | omega) (st:=204) (mI:=204) rfl lT (co (dT _ _) x.c) kL qw;go_wp2;generalize (((w9.setCell ⟨w.heap.size+2,0,U⟩ (I J 204)).setCell ⟨w.heap.size+2,1,U⟩ (Z y B z)).setCell ⟨w.heap.size+2,2,U⟩ (Z U 0 0))=wf at *;obtain⟨q0,q1,q2,q3⟩:=HE.o;refine aS (v:=.agg #[I J 204,Z y B z,Z U 0 0]) (by simp[results,results158,go_sem,q0,q1,q2]) rfl ?_;rw[f.o];exact pa.a q3
end
section
variable {g:Nat} {m t:ae} {mi ln:Int} {l:aC} {fo:ag} {fZ nf:Nat} {bo:ag} {fV nb:Nat} {w w0:X} {S:Nat->Prop} {s:av}
theorem Ih (a:ae)(f:a.size<=2000)(h:fX w l fo fZ nf):
 ((dg (ba (aQ a l))).2=F∧Hid (∀W,Below w.heap.size w W->Calls prog 213 #[.agg #[Q (M ⟨g,0,U⟩),V m,V t,I J mi,Z fo nf fZ,I J ln,Z bo nb fV],V a] W fun e w'=>gK W (bR 400 []) e w')) ∨
 (dg (ba (aQ a l))=(-1,true)∧Hid (∀W,Below w.heap.size w W->Calls prog 213 #[.agg #[Q (M ⟨g,0,U⟩),V m,V t,I J mi,Z fo nf fZ,I J ln,Z bo nb fV],V a] W fun e w'=>e=Y (.tuple #[I J 0,.bool F])∧Below W.heap.size W w')) ∨
 (∃x:Int,0<=x∧x<1000000000∧dg (ba (aQ a l))=(x,true)∧Hid (∀W,Below w.heap.size w W->Calls prog 213 #[.agg #[Q (M ⟨g,0,U⟩),V m,V t,I J mi,Z fo nf fZ,I J ln,Z bo nb fV],V a] W fun e w'=>e=Y (.tuple #[I J x,.bool true])∧Below W.heap.size W w')):=by
 by_cases c:(ba (aQ a l)).2=10
 . exact R (A ⟨GT c,fun W d=>BR a f (h.a d) c⟩)
 . cases b:(dg (ba (aQ a l))).2 with
   | false=>exact A ⟨rfl,fun W d=>C2 a f (h.a d) b⟩
   | true =>
     have i:dg (ba (aQ a l))=((dg (ba (aQ a l))).1,true):=by rw[<-b]
     refine R (R ⟨_,GU c i,?_,i,fun W d=>Cp a f (h.a d) c i⟩);generalize ba (aQ a l)=r at *;unfold dg at b ⊢;rw[if_neg c] at b ⊢;rw[hQ] at b;exact(tQ b.1).2
theorem B8 (p:jU w0 w S)(h:aT w S g s)(ok:aK s)(hF:fX w l fo fZ nf)(body:ab)(hb:body.length=nb)(hB:az w bo fV body)(hnb:nb<=100000)(u:aN)(uo:ag)(un gQ:Nat)(hun:u.b.length=un)(RL:un<=2000)(hs0:-1<=u.a):
 Calls prog 157 #[.agg #[Q (M ⟨g,0,U⟩),V m,V t,I J mi,Z fo nf fZ,I J ln,Z bo nb fV],.agg #[I J u.c,I J u.a,V u.d,Z uo un gQ,I J u.e]] w fun e w'=>pa S w g (mw s u l body) e w':=by
 have T3:bW aT S w g [K #[Q (M ⟨g,0,U⟩),V m,V t,I J mi,Z fo nf fZ,I J ln,Z bo nb fV] 185 (0,0),K #[I J u.c,I J u.a,V u.d,Z uo un gQ,I J u.e] 92 (0,0),K #[I J 0,Z U 0 0,Z U 0 0] 126 (0,0)] s (fun k=>S k∧k<w.heap.size) (((w.alloc (K #[Q (M ⟨g,0,U⟩),V m,V t,I J mi,Z fo nf fZ,I J ln,Z bo nb fV] 185)).alloc (K #[I J u.c,I J u.a,V u.d,Z uo un gQ,I J u.e] 92)).alloc (K #[I J 0,Z U 0 0,Z U 0 0] 126)):=FN h _ _;have HB3:Below w.heap.size w (((w.alloc (K #[Q (M ⟨g,0,U⟩),V m,V t,I J mi,Z fo nf fZ,I J ln,Z bo nb fV] 185)).alloc (K #[I J u.c,I J u.a,V u.d,Z uo un gQ,I J u.e] 92)).alloc (K #[I J 0,Z U 0 0,Z U 0 0] 126)):=au (au ((ar _ w).alloc (am _) _) ((ar _ _).alloc (am _) _)) ((ar _ _).alloc (am _) _);have HC:∀W s' S',bW aT S w g [K #[Q (M ⟨g,0,U⟩),V m,V t,I J mi,Z fo nf fZ,I J ln,Z bo nb fV] 185 (0,0),K #[I J u.c,I J u.a,V u.d,Z uo un gQ,I J u.e] 92 (0,0),K #[I J 0,Z U 0 0,Z U 0 0] 126 (0,0)] s' S' W->W.cell? ⟨w.heap.size,0,U⟩=M (Q (M ⟨g,0,U⟩))∧W.cell? ⟨w.heap.size,1,U⟩=M (V m)∧W.cell? ⟨w.heap.size,2,U⟩=M (V t)∧W.cell? ⟨w.heap.size,3,U⟩=M (I J mi)∧W.cell? ⟨w.heap.size,4,U⟩=M (Z fo nf fZ)∧W.cell? ⟨w.heap.size,5,U⟩=M (I J ln)∧W.cell? ⟨w.heap.size,6,U⟩=M (Z bo nb fV):=fun W s' S' hW=>hW.jZ;have HU:∀W s' S',bW aT S w g [K #[Q (M ⟨g,0,U⟩),V m,V t,I J mi,Z fo nf fZ,I J ln,Z bo nb fV] 185 (0,0),K #[I J u.c,I J u.a,V u.d,Z uo un gQ,I J u.e] 92 (0,0),K #[I J 0,Z U 0 0,Z U 0 0] 126 (0,0)] s' S' W->W.cell? ⟨w.heap.size+1,0,U⟩=M (I J u.c)∧W.cell? ⟨w.heap.size+1,1,U⟩=M (I J u.a)∧W.cell? ⟨w.heap.size+1,2,U⟩=M (V u.d)∧W.cell? ⟨w.heap.size+1,3,U⟩=M (Z uo un gQ)∧W.cell? ⟨w.heap.size+1,4,U⟩=M (I J u.e):=fun W s' S' hW=>hW.nE;obtain⟨N,T,x2,x3,x4,x5,x6⟩:=HC _ _ _ T3;obtain⟨v0,v1,v2,v3,v4⟩:=HU _ _ _ T3;have HF:=hF;have sw:=aa ok;have Dr:=aa p
 have yN:∀W,Below w.heap.size w W->az W bo fV body:=fun W hW=>hB.a hW;have hN1:=Ih (g:=g) (m:=m) (t:=t) (mi:=mi) (ln:=ln) (bo:=bo) (fV:=fV) (nb:=nb) dm (by decide) hF;have hN2:=Ih (g:=g) (m:=m) (t:=t) (mi:=mi) (ln:=ln) (bo:=bo) (fV:=fV) (nb:=nb) gC (by decide) hF;rw[P8] at hN1;rw[ve] at hN2;unfold dm at hN1;unfold gC at hN2;have NG:∀x W,0<=u.a->x≠u.a->Calls prog 214 #[.agg #[I J u.c,I J u.a,V u.d,Z uo un gQ,I J u.e],I J x,I J ((un:Int)+nb)] W fun e w'=>gK W (bR 400 []) e w':=fun x W=>(BG u.c u.a u.e x ((un:Int)+nb) u.d uo un gQ W hs0).1;have HS2:∀x W,u.a<0->(2000<x∨x<(un:Int)+nb)->Calls prog 214 #[.agg #[I J u.c,I J u.a,V u.d,Z uo un gQ,I J u.e],I J x,I J ((un:Int)+nb)] W fun e w'=>gK W (bR 413 []) e w':=fun x W=>(BG u.c u.a u.e x ((un:Int)+nb) u.d uo un gQ W hs0).2.1;have Ci:∀x W,(0<=u.a∧x=u.a)∨(u.a<0∧¬(2000<x∨x<(un:Int)+nb))->Calls prog 214 #[.agg #[I J u.c,I J u.a,V u.d,Z uo un gQ,I J u.e],I J x,I J ((un:Int)+nb)] W fun e w'=>e=Y (.tuple #[])∧Below W.heap.size W w':=fun x W=>(BG u.c u.a u.e x ((un:Int)+nb) u.d uo un gQ W hs0).2.2;obtain⟨aaT,hR⟩:∃aaT,aaT=mw s u l body:=⟨_,rfl⟩;rw[<-hR];unfold mw at hR;rw[hun,hb] at hR;have a:=aa hR;go_enter func157,ntmps157;by_cases hc9:(ba (aQ jM l)).2=9
 . rw[if_pos hc9] at a;have HM:=MF (g:=g) (m:=m) (t:=t) (mi:=mi) (ln:=ln) (bo:=bo) (fV:=fV) (nb:=nb) (HF.a HB3) hc9;go_wp2_with fail;refine(HM).mono ?_;rintro e C n;obtain⟨f,q,r,z,d⟩:=T3.e n;unfold bS at d;subst d;go_wp2;exact⟨rfl,by rw[a.o];exact f.o⟩
 rw[if_neg hc9] at a;obtain⟨hm1,hm2⟩:=Oo (g:=g) (m:=m) (t:=t) (mi:=mi) (ln:=ln) (bo:=bo) (fV:=fV) (nb:=nb) (HF.a HB3) hc9;cases hoff:qR (ba (aQ jM l)).1 with
 | false =>
   rw[if_pos hoff] at a;have HM:=hm1 hoff;go_wp2_with fail;refine(HM).mono ?_;rintro e C n;obtain⟨f,q,r,z,d⟩:=T3.e n;unfold bS at d;subst d;go_wp2;exact⟨rfl,by rw[a.o];exact f.o⟩
 | true =>
 rw[if_neg (by rw[hoff];simp)] at a;have HM:=hm2 hoff;go_wp2_with fail;refine(HM).mono ?_;rintro e w4 ⟨rfl,c⟩;have jH:=au HB3 c;have H4:=T3.a bG c;obtain⟨N,T,x2,x3,x4,x5,x6⟩:=HC _ _ _ H4;obtain⟨v0,v1,v2,v3,v4⟩:=HU _ _ _ H4;rcases hN1 with ⟨hx,HN⟩ | ⟨hx,HN⟩ | ⟨x,hx0,hx1,hx,HN⟩
 . rw[if_pos (A hx)] at a;go_wp2_with fail;refine(HN.o _ jH).mono ?_;rintro e C n;obtain⟨f,q,r,z,d⟩:=H4.e n;unfold bS at d;subst d;go_wp2;exact⟨rfl,by rw[a.o];exact f.o⟩
 . rw[if_pos (R (by rw[hx];decide))] at a;go_wp2_with fail;refine(HN.o _ jH).mono ?_;rintro e w5 ⟨rfl,c⟩;have oG:=au jH c;have H5:=H4.a bG c;obtain⟨N,T,x2,x3,x4,x5,x6⟩:=HC _ _ _ H5;obtain⟨v0,v1,v2,v3,v4⟩:=HU _ _ _ H5;go_wp2_with fail;refine(iC 400 400 rfl _).mono ?_;rintro e C n;obtain⟨f,q,r,z,d⟩:=H5.e n;unfold bS at d;subst d;go_wp2;exact⟨rfl,by rw[a.o];exact f.o⟩
 rw[if_neg (by rw[hx];exact fun e=>e.elim (fun e=>by cases e) (fun e=>absurd e (by show ¬x<0;omega)))] at a;rw[hx] at a;simp only at a;go_wp2_with fail;refine(HN.o _ jH).mono ?_;rintro e w5 ⟨rfl,c⟩;have oG:=au jH c;have H5:=H4.a bG c;obtain⟨N,T,x2,x3,x4,x5,x6⟩:=HC _ _ _ H5;obtain⟨v0,v1,v2,v3,v4⟩:=HU _ _ _ H5;go_wp2_with fail;refine(fT 400 U 0 0 _).mono ?_;rintro e wq ⟨rfl,c⟩;rw[c];by_cases hxu:x=(un:Int)
 case neg =>
  rw[if_pos hxu] at a;have tx:(x==(un:Int))=F:=by rw[aO];exact hxu
  go_wp2_with fail;refine(iC 409 409 rfl _).mono ?_;rintro e C n;obtain⟨f,q,r,z,d⟩:=H5.e n;unfold bS at d;subst d;go_wp2;exact⟨rfl,by rw[a.o];exact f.o⟩
 rw[if_neg (fun e=>e hxu)] at a;subst hxu;go_wp2_with fail;refine(fT 409 U 0 0 _).mono ?_;rintro e wq ⟨rfl,c⟩;rw[c];rcases hN2 with ⟨hy,HN⟩ | ⟨hy,HN⟩ | ⟨y,hy0,hy1,hy,HN⟩
 . rw[if_pos (A hy)] at a;go_wp2_with fail;refine(HN.o _ oG).mono ?_;rintro e C n;obtain⟨f,q,r,z,d⟩:=H5.e n;unfold bS at d;subst d;go_wp2;exact⟨rfl,by rw[a.o];exact f.o⟩
 . have L:pN u l<->(0<=(-1:Int)∧u.a<0):=by unfold pN;rw[hy]
   rw[hy] at a;simp only at a;rw[if_neg (fun e=>e.elim (fun e=>by cases e) (fun e=>by have:=e.1;omega)),if_neg (fun e=>by have:=(L.1 e.1).1;omega)] at a;go_wp2_with fail;refine(HN.o _ oG).mono ?_;rintro e w6 ⟨rfl,c⟩;have wL:=au oG c;have H6:=H5.a bG c;obtain⟨N,T,x2,x3,x4,x5,x6⟩:=HC _ _ _ H6;obtain⟨v0,v1,v2,v3,v4⟩:=HU _ _ _ H6;obtain⟨G,JY⟩:∃b,(decide ((0:Int)<=(nb:Int)+60)&&decide ((nb:Int)+60<=100000-(s.a.length:Int)))=b:=⟨_,rfl⟩;have eR:G=F<->100000<s.a.length+(nb+60):=by
    rw[<-JY,pT,cz,cz];omega
   have Vb:=yp H6.b ((nb:Int)+60);rw[JY] at Vb;go_wp2_with fail;refine Vb.mono ?_;rintro e wq ⟨rfl,c⟩;rw[c];cases G with
   | false =>
     rw[if_pos (eR.1 rfl)] at a;go_wp2_with fail;refine(iC 507 507 rfl _).mono ?_;rintro e C n;obtain⟨f,q,r,z,d⟩:=H6.e n;unfold bS at d;subst d;go_wp2;exact⟨rfl,by rw[a.o];exact f.o⟩
   | true =>
     rw[if_neg (fun e=>by have:=eR.2 e;cases this)] at a;go_wp2_with fail;refine(fT 507 U 0 0 _).mono ?_;rintro e wq ⟨rfl,c⟩;rw[c];have V3:=yd H6.b sw.o u.c (un:Int) bo nb fV body (yN _ wL) hb (by omega);have JZ:(cK s u.c (un:Int) body).2≠0->(cK s u.c (un:Int) body).1=s:=fun e=>by unfold cK at e ⊢;exact pL e
     have HOa:aK (cK s u.c (un:Int) body).1:=sw.o.a _ _ _;go_wp2_with fail;refine V3.mono ?_;rintro e w20 ⟨rfl,H,hT⟩;have B:=H6.j H hT;generalize cK s u.c (un:Int) body=ra at *;obtain⟨sa,ca⟩:=ra;simp only at a JZ B HOa ⊢;obtain⟨N,T,x2,x3,x4,x5,x6⟩:=HC _ _ _ B;obtain⟨v0,v1,v2,v3,v4⟩:=HU _ _ _ B;by_cases j:ca=0
     . subst j;rw[if_neg (by simp)] at a;go_wp2_with fail;refine(ya _).mono ?_;rintro e wq ⟨rfl,c⟩;rw[c];rw[if_neg (fun e=>by have:=(L.1 e).1;omega)] at a;have JB:=rl B.b;go_wp2_with fail;refine JB.mono ?_;rintro e w22 ⟨rfl,vI,CU⟩;have D:=B.lG vI CU;have IU:=tf dm (un+nb) ((un:Int)+nb) (by omega) (by omega) w22 (D.y Dr.o);unfold dm at IU;generalize eW (un+nb)=db at *;go_wp2_with fail;refine IU.mono ?_;rintro e YT ⟨rfl,c⟩;have YU:=(D.a bG c).a bG ((ar _ YT).alloc (am _) (K #[V dm,V db] 148));have MP:=oq 204 204 rfl [(dm,db)] (M ⟨YT.heap.size,0,U⟩) 1 1 _ (bx.e YT #[V dm,V db] 1 148 (0,0)) rfl (by decide);unfold dm at MP YU;go_wp2_with fail;refine MP.mono ?_;rintro e C ⟨q,r,z,rfl,lT,kL,qw⟩;obtain⟨⟨z0,z1,z2,y0,y1,y2⟩,f⟩:=YU.f bG (i:=2) rfl (b:=w.heap.size+2) (by first | rfl | omega) (st:=204) (mI:=204) rfl lT (co (dT _ _) YU.c) kL qw;go_wp2;generalize (((C.setCell ⟨w.heap.size+2,0,U⟩ (I J 204)).setCell ⟨w.heap.size+2,1,U⟩ (Z q z r)).setCell ⟨w.heap.size+2,2,U⟩ (Z U 0 0))=wf at *;obtain⟨q0,q1,q2,q3⟩:=f.o;refine aS (v:=.agg #[I J 204,Z q z r,Z U 0 0]) (by simp[results,results157,go_sem,q0,q1,q2]) rfl ?_;rw[a.o];exact pa.a q3
     . rw[if_pos j] at a;have hsa:=JZ j;subst hsa;have HNd:=yi ca j w20;go_wp2_with fail;refine(HNd).mono ?_;rintro e C n;obtain⟨f,q,r,z,d⟩:=B.e n;unfold bS at d;subst d;go_wp2;exact⟨rfl,by rw[a.o];exact f.o⟩
 . have L:pN u l<->(0<=y∧u.a<0):=by unfold pN;rw[hy]
   rw[hy] at a;simp only at a;go_wp2_with fail;refine(HN.o _ oG).mono ?_;rintro e w6 ⟨rfl,c⟩;have wL:=au oG c;have H6:=H5.a bG c;obtain⟨N,T,x2,x3,x4,x5,x6⟩:=HC _ _ _ H6;obtain⟨v0,v1,v2,v3,v4⟩:=HU _ _ _ H6;by_cases hsz:u.a<0
   . rw[if_neg (fun e=>e.elim (fun e=>by cases e) (fun e=>by have:=e.2.1;omega))] at a;by_cases hbad:2000<y∨y<(un:Int)+nb
     . rw[if_pos ⟨L.2 ⟨hy0,hsz⟩,by simpa using hbad⟩] at a;have HQ:=HS2 y w6 hsz hbad;go_wp2_with fail;refine(HQ).mono ?_;rintro e C n;obtain⟨f,q,r,z,d⟩:=H6.e n;unfold bS at d;subst d;go_wp2;exact⟨rfl,by rw[a.o];exact f.o⟩
     . rw[if_neg (fun e=>hbad (by simpa using e.2))] at a;have HQ:=Ci y w6 (R ⟨hsz,hbad⟩);go_wp2_with fail;refine(HQ).mono ?_;rintro e w7 ⟨rfl,c⟩;have Vd:=au wL c;have H7:=H6.a bG c;obtain⟨N,T,x2,x3,x4,x5,x6⟩:=HC _ _ _ H7;obtain⟨v0,v1,v2,v3,v4⟩:=HU _ _ _ H7;obtain⟨G,JY⟩:∃b,(decide ((0:Int)<=(nb:Int)+60)&&decide ((nb:Int)+60<=100000-(s.a.length:Int)))=b:=⟨_,rfl⟩;have eR:G=F<->100000<s.a.length+(nb+60):=by
        rw[<-JY,pT,cz,cz];omega
       have Vb:=yp H7.b ((nb:Int)+60);rw[JY] at Vb;go_wp2_with fail;refine Vb.mono ?_;rintro e wq ⟨rfl,c⟩;rw[c];cases G with
       | false =>
         rw[if_pos (eR.1 rfl)] at a;go_wp2_with fail;refine(iC 507 507 rfl _).mono ?_;rintro e C n;obtain⟨f,q,r,z,d⟩:=H7.e n;unfold bS at d;subst d;go_wp2;exact⟨rfl,by rw[a.o];exact f.o⟩
       | true =>
         rw[if_neg (fun e=>by have:=eR.2 e;cases this)] at a;go_wp2_with fail;refine(fT 507 U 0 0 _).mono ?_;rintro e wq ⟨rfl,c⟩;rw[c];have V3:=yd H7.b sw.o u.c (un:Int) bo nb fV body (yN _ Vd) hb (by omega);have JZ:(cK s u.c (un:Int) body).2≠0->(cK s u.c (un:Int) body).1=s:=fun e=>by unfold cK at e ⊢;exact pL e
         have HOa:aK (cK s u.c (un:Int) body).1:=sw.o.a _ _ _;go_wp2_with fail;refine V3.mono ?_;rintro e w20 ⟨rfl,H,hT⟩;have B:=H7.j H hT;generalize cK s u.c (un:Int) body=ra at *;obtain⟨sa,ca⟩:=ra;simp only at a JZ B HOa ⊢;obtain⟨N,T,x2,x3,x4,x5,x6⟩:=HC _ _ _ B;obtain⟨v0,v1,v2,v3,v4⟩:=HU _ _ _ B;by_cases j:ca=0
         . subst j;rw[if_neg (by simp)] at a;go_wp2_with fail;refine(ya _).mono ?_;rintro e wq ⟨rfl,c⟩;rw[c];rw[if_pos (L.2 ⟨hy0,hsz⟩)] at a;have t1:(u.a==-1)=true:=by rw[cJ];omega
           have HDc:=LD B.b HOa u.c y;go_wp2_with fail;refine HDc.mono ?_;rintro e w21 ⟨rfl,H,hT⟩;have H21:=B.j H hT;generalize qL sa u.c y=rd at *;obtain⟨sd,cd⟩:=rd;simp only at a H21 ⊢;obtain⟨N,T,x2,x3,x4,x5,x6⟩:=HC _ _ _ H21;obtain⟨v0,v1,v2,v3,v4⟩:=HU _ _ _ H21;have JB:=rl H21.b;go_wp2_with fail;refine JB.mono ?_;rintro e w22 ⟨rfl,vI,CU⟩;have D:=H21.lG vI CU;have IU:=tf dm (un+nb) ((un:Int)+nb) (by omega) (by omega) w22 (D.y Dr.o);unfold dm at IU;generalize eW (un+nb)=db at *;go_wp2_with fail;refine IU.mono ?_;rintro e YT ⟨rfl,c⟩;have YU:=(D.a bG c).a bG ((ar _ YT).alloc (am _) (K #[V dm,V db] 148));have MP:=oq 204 204 rfl [(dm,db)] (M ⟨YT.heap.size,0,U⟩) 1 1 _ (bx.e YT #[V dm,V db] 1 148 (0,0)) rfl (by decide);unfold dm at MP YU;go_wp2_with fail;refine MP.mono ?_;rintro e C ⟨q,r,z,rfl,lT,kL,qw⟩;obtain⟨⟨z0,z1,z2,y0,y1,y2⟩,f⟩:=YU.f bG (i:=2) rfl (b:=w.heap.size+2) (by first | rfl | omega) (st:=204) (mI:=204) rfl lT (co (dT _ _) YU.c) kL qw;go_wp2;generalize (((C.setCell ⟨w.heap.size+2,0,U⟩ (I J 204)).setCell ⟨w.heap.size+2,1,U⟩ (Z q z r)).setCell ⟨w.heap.size+2,2,U⟩ (Z U 0 0))=wf at *;obtain⟨q0,q1,q2,q3⟩:=f.o;refine aS (v:=.agg #[I J 204,Z q z r,Z U 0 0]) (by simp[results,results157,go_sem,q0,q1,q2]) rfl ?_;rw[a.o];exact pa.a q3
         . rw[if_pos j] at a;have hsa:=JZ j;subst hsa;have HNd:=yi ca j w20;clear j JZ;go_wp2_with fail;refine(HNd).mono ?_;rintro e C n;obtain⟨f,q,r,z,d⟩:=B.e n;unfold bS at d;subst d;clear n;go_wp2;exact⟨rfl,by rw[a.o];exact f.o⟩
   . have hsz0:0<=u.a:=by omega
     by_cases hne:y=u.a
     . rw[if_neg (fun e=>e.elim (fun e=>by cases e) (fun e=>e.2.2 hne)),if_neg (fun e=>hsz (L.1 e.1).2)] at a;have HQ:=Ci y w6 (A ⟨hsz0,hne⟩);clear hne;go_wp2_with fail;refine(HQ).mono ?_;rintro e w7 ⟨rfl,c⟩;have Vd:=au wL c;have H7:=H6.a bG c;clear c H6 wL N T x2 x3 x4 x5 x6 v0 v1 v2 v3 v4;obtain⟨N,T,x2,x3,x4,x5,x6⟩:=HC _ _ _ H7;obtain⟨v0,v1,v2,v3,v4⟩:=HU _ _ _ H7;clear HQ;obtain⟨G,JY⟩:∃b,(decide ((0:Int)<=(nb:Int)+60)&&decide ((nb:Int)+60<=100000-(s.a.length:Int)))=b:=⟨_,rfl⟩;have eR:G=F<->100000<s.a.length+(nb+60):=by
        rw[<-JY,pT,cz,cz];omega
       have Vb:=yp H7.b ((nb:Int)+60);rw[JY] at Vb;clear JY;go_wp2_with fail;refine Vb.mono ?_;rintro e wq ⟨rfl,c⟩;rw[c];clear c;clear Vb;cases G with
       | false =>
         rw[if_pos (eR.1 rfl)] at a;go_wp2_with fail;refine(iC 507 507 rfl _).mono ?_;rintro e C n;obtain⟨f,q,r,z,d⟩:=H7.e n;unfold bS at d;subst d;clear n;go_wp2;exact⟨rfl,by rw[a.o];exact f.o⟩
       | true =>
         rw[if_neg (fun e=>by have:=eR.2 e;cases this)] at a;clear eR;go_wp2_with fail;refine(fT 507 U 0 0 _).mono ?_;rintro e wq ⟨rfl,c⟩;rw[c];clear c;have V3:=yd H7.b sw.o u.c (un:Int) bo nb fV body (yN _ Vd) hb (by omega);have JZ:(cK s u.c (un:Int) body).2≠0->(cK s u.c (un:Int) body).1=s:=fun e=>by unfold cK at e ⊢;exact pL e
         have HOa:aK (cK s u.c (un:Int) body).1:=sw.o.a _ _ _;go_wp2_with fail;refine V3.mono ?_;rintro e w20 ⟨rfl,H,hT⟩;have B:=H7.j H hT;clear H hT V3 H7 Vd N T x2 x3 x4 x5 x6 v0 v1 v2 v3 v4;generalize cK s u.c (un:Int) body=ra at *;obtain⟨sa,ca⟩:=ra;simp only at a JZ B HOa ⊢;obtain⟨N,T,x2,x3,x4,x5,x6⟩:=HC _ _ _ B;obtain⟨v0,v1,v2,v3,v4⟩:=HU _ _ _ B;by_cases j:ca=0
         . subst j;rw[if_neg (by simp)] at a;clear JZ;go_wp2_with fail;refine(ya _).mono ?_;rintro e wq ⟨rfl,c⟩;rw[c];clear c;have t1:(u.a==-1)=F:=by rw[aO];omega
           rw[if_neg (fun e=>by have:=(L.1 e).2;omega)] at a;have JB:=rl B.b;go_wp2_with fail;refine JB.mono ?_;rintro e w22 ⟨rfl,vI,CU⟩;have D:=B.lG vI CU;have IU:=tf dm (un+nb) ((un:Int)+nb) (by omega) (by omega) w22 (D.y Dr.o);unfold dm at IU;generalize eW (un+nb)=db at *;clear vI CU JB B N T x2 x3 x4 x5 x6 v0 v1 v2 v3 v4;go_wp2_with fail;refine IU.mono ?_;rintro e YT ⟨rfl,c⟩;have YU:=(D.a bG c).a bG ((ar _ YT).alloc (am _) (K #[V dm,V db] 148));have MP:=oq 204 204 rfl [(dm,db)] (M ⟨YT.heap.size,0,U⟩) 1 1 _ (bx.e YT #[V dm,V db] 1 148 (0,0)) rfl (by decide);unfold dm at MP YU;clear c IU D;go_wp2_with fail;refine MP.mono ?_;rintro e C ⟨q,r,z,rfl,lT,kL,qw⟩;obtain⟨⟨z0,z1,z2,y0,y1,y2⟩,f⟩:=YU.f bG (i:=2) rfl (b:=w.heap.size+2) (by first | rfl | omega) (st:=204) (mI:=204) rfl lT (co (dT _ _) YU.c) kL qw;clear lT kL qw;go_wp2;generalize (((C.setCell ⟨w.heap.size+2,0,U⟩ (I J 204)).setCell ⟨w.heap.size+2,1,U⟩ (Z q z r)).setCell ⟨w.heap.size+2,2,U⟩ (Z U 0 0))=wf at *;obtain⟨q0,q1,q2,q3⟩:=f.o;refine aS (v:=.agg #[I J 204,Z q z r,Z U 0 0]) (by simp[results,results157,go_sem,q0,q1,q2]) rfl ?_;rw[a.o];exact pa.a q3
         . rw[if_pos j] at a;have hsa:=JZ j;subst hsa;have HNd:=yi ca j w20;clear j JZ;go_wp2_with fail;refine(HNd).mono ?_;rintro e C n;obtain⟨f,q,r,z,d⟩:=B.e n;unfold bS at d;subst d;clear n;go_wp2;exact⟨rfl,by rw[a.o];exact f.o⟩
     . rw[if_pos (R ⟨hy0,hsz0,hne⟩)] at a;have HQ:=NG y w6 hsz0 hne;clear hne;go_wp2_with fail;refine(HQ).mono ?_;rintro e C n;obtain⟨f,q,r,z,d⟩:=H6.e n;unfold bS at d;subst d;clear n;go_wp2;exact⟨rfl,by rw[a.o];exact f.o⟩
end
def mQ:nB:=fun _ _ _ _=>True
theorem ia:pe mQ:=⟨fun _ _ _=>trivial,fun _ _=>trivial⟩
def jk:Nat->Prop:=fun _=>False
theorem vY.a {w w':X}{g:Nat}{s:av}{r:iY}{e:Ending}(h:vY mQ jk w g (s,r) e w'):uw w r e w':=by
 obtain⟨⟨b,a,n,c,d,f⟩,_,i⟩:=h;exact⟨b,a,n,c,d,f,i.below (fun _ e=>e.elim) (am _)⟩
theorem Hg (w:X)(a:Obj):bW mQ jk w 0 [a] iX (fun k=>jk k∧k<w.heap.size) (w.alloc a) :=
 (bW.G (O:=mQ) (S:=jk) (g:=0) (s:=iX) ia trivial).q ia rfl (fun _ e=>e.1.elim) _
theorem Ts (w:X)(a b:Obj):bW mQ jk w 0 [a,b] iX (fun k=>jk k∧k<w.heap.size) ((w.alloc a).alloc b):=by
 have c:(w.alloc a).heap.size=w.heap.size+1:=bu ..;exact(Hg w a).q ia c (fun _ e=>e.1.elim) _
theorem LI (w:X)(q:di w):Calls prog 150 #[] w fun e w'=>uw w (bR 204 [(eg,cG),(nt,nw),(oa,ob)]) e w':=by
 have s:=Hg w (K #[I J 0,Z U 0 0,Z U 0 0] 126);have c:=(ar _ w).alloc (am _) (K #[I J 0,Z U 0 0,Z U 0 0] 126);go_enter func150,ntmps150;go_wp2_with fail;refine(nF eg cG (w.alloc (K #[I J 0,Z U 0 0,Z U 0 0] 126))).mono ?_;rintro e t ⟨rfl,a⟩;have u:=s.a ia a;have d:=au c a;have f:=tf nt 2000 2000 rfl (by decide) t (q.a d);rw[show eW 2000=nw from by decide +kernel] at f;unfold nt nw at f;go_wp2_with fail;refine f.mono ?_;rintro e x ⟨rfl,g⟩;have y:=u.a ia g;go_wp2_with fail;refine(nF oa ob x).mono ?_;rintro e j ⟨rfl,k⟩;have l:=(y.a ia k).a ia ((ar _ j).alloc (am _) (K #[V eg,V cG,V nt,V nw,V oa,V ob] 148));unfold eg cG nt nw oa ob at l;go_wp2_with fail;refine(oq 204 204 rfl [(eg,cG),(nt,nw),(oa,ob)] (M ⟨j.heap.size,0,U⟩) 3 3 _ (bx.e j #[V eg,V cG,V nt,V nw,V oa,V ob] 3 148 (0,0)) rfl (by decide)).mono ?_;rintro e z ⟨m,n,p,rfl,B,C,D⟩;obtain⟨⟨T,W,z2,y0,y1,y2⟩,G⟩:=l.f ia (i:=0) rfl (b:=w.heap.size) (by first | rfl | omega) (st:=204) (mI:=204) rfl B (co (dT _ _) l.c) C D;go_wp2;generalize (((z.setCell ⟨w.heap.size,0,U⟩ (I J 204)).setCell ⟨w.heap.size,1,U⟩ (Z m p n)).setCell ⟨w.heap.size,2,U⟩ (Z U 0 0))=wf at *;obtain⟨H,L,N,S⟩:=G.o;refine aS (v:=.agg #[I J 204,Z m p n,Z U 0 0]) (by simp[results,results150,go_sem,H,L,N]) rfl ?_;exact vY.a (r:=bR 204 [(eg,cG),(nt,nw),(oa,ob)]) S
theorem Ii (u:aN)(uo:ag)(un gQ:Nat)(hun:u.b.length=un)(hs0:-1<=u.a)(hs1:u.a<=2000)(RL:un<=2000)(w:X)(hP:di w):
 Calls prog 156 #[.agg #[I J u.c,I J u.a,V u.d,Z uo un gQ,I J u.e]] w fun e w'=>uw w (jN u) e w':=by
 have T2:=Ts w (K #[I J u.c,I J u.a,V u.d,Z uo un gQ,I J u.e] 92) (K #[I J 0,Z U 0 0,Z U 0 0] 126);have HC:∀W s' S',bW mQ jk w 0 [K #[I J u.c,I J u.a,V u.d,Z uo un gQ,I J u.e] 92 (0,0),K #[I J 0,Z U 0 0,Z U 0 0] 126 (0,0)] s' S' W->W.cell? ⟨w.heap.size,1,U⟩=M (I J u.a)∧W.cell? ⟨w.heap.size,2,U⟩=M (V u.d)∧W.cell? ⟨w.heap.size,3,U⟩=M (Z uo un gQ):=fun W s' S' j=>by
  have r:=j.B 0 rfl;exact⟨aq W _ 1 _ _ _ r,aq W _ 2 _ _ _ r,aq W _ 3 _ _ _ r⟩
 obtain⟨x1,x2,x3⟩:=HC _ _ _ T2;have HB2:Below w.heap.size w ((w.alloc (K #[I J u.c,I J u.a,V u.d,Z uo un gQ,I J u.e] 92)).alloc (K #[I J 0,Z U 0 0,Z U 0 0] 126)):=au ((ar _ w).alloc (am _) _) ((ar _ _).alloc (am _) _);have Dr:=aa hP;have HUn:=aa hun;obtain⟨z,hcnt,l⟩:∃z:ae,Hid (∀W,Below w.heap.size w W->Calls prog 205 #[V gC,I J u.a] W fun e w'=>e=Y (.agg #[V gC,V z])∧Below W.heap.size W w')∧(0<=u.a->z=eW u.a.toNat):=by
  by_cases h0:0<=u.a
  . exact⟨_,fun W j=>tf gC u.a.toNat u.a (by omega) (by omega) W (hP.a j),fun _=>rfl⟩
  . have e1:u.a=-1:=by omega
    rw[e1];refine⟨⟨(Lib.itoa (-1)).toArray⟩,fun W j=>?_,fun e=>absurd e (by omega)⟩;refine EB gC _ (-1) W (fun W2 hW2=>?_);refine(Any.strconv_Itoa Tryz.lays171 (-1) (by decide) (by decide) W2 (hP.a (au j hW2))).mono ?_;rintro e w' ⟨he,k,os,rfl⟩;exact⟨he,Lib.below_grow _ W2 (am _) k os⟩
 have HC1:=aa (hcnt.out _ HB2);unfold gC at HC1;obtain⟨f,g,d⟩:∃f g:ae,(f,g)=(if u.a<0 then (gD,kZ) else (gC,eW u.a.toNat)):=⟨_,_,rfl⟩;obtain⟨B,hR⟩:∃B,B=jN u:=⟨_,rfl⟩;rw[<-hR];have HD:Hid (B=bR 200 ((dm,eW un)::(f,g)::(kq,kr)::(if u.d.size=0 then [] else [(ir,u.d)]))):=by
  unfold Hid;rw[hR];unfold jN;rw[<-d,HUn.o]
 have U9:(f,g)=(if u.a<0 then (gD,kZ) else (gC,eW u.a.toNat)):=d;have HSv:=aa l;go_enter func156,ntmps156;go_wp2_with fail;refine HC1.o.mono ?_;rintro e C ⟨rfl,hw3⟩;have H3:=T2.a ia hw3;have HB3:=au HB2 hw3;have hb4:=(ar _ C).alloc (am _) (K #[V gC,V z] 148);have H4:=H3.a ia hb4;have jH:=au HB3 hb4;have m:(C.alloc (K #[V gC,V z] 148)).heap[C.heap.size]? = M (K #[V gC,V z] 148 (0,0)):=be C _;have HZ4:Hid (w.heap.size+2<=C.heap.size):=H3.c;obtain⟨x1,x2,x3⟩:=HC _ _ _ H4;unfold gC at H4 jH m;unfold gC at x1 x2 x3;go_upto_region 2 with fail
 generalize (C.alloc (K #[V ⟨#[85,112,108,111,97,100,45,76,101,110,103,116,104]⟩,V z] 148))=w4 at *;generalize C.heap.size=c at *;obtain⟨bn,hbn⟩:∃b,(u.a==-1)=b:=⟨_,rfl⟩;have D:Hid (bn=true<->u.a<0):=by
  unfold Hid;rw[<-hbn,cJ];omega
 go_upto_if 10 with fail
 go_cut [11] (fun _ G=>bW mQ jk w 0 [K #[I J u.c,I J u.a,V u.d,Z uo un gQ,I J u.e] 92 (0,0),K #[I J 0,Z U 0 0,Z U 0 0] 126 (0,0)] iX (fun k=>jk k∧k<w.heap.size) G∧Below w.heap.size w G∧G.heap[c]? = M (K #[V f,V g] 148 (0,0)))
 case first =>
  cases bn with
  | true =>
    have d:=U9;rw[if_pos (D.o.1 rfl)] at d;injection d with H L;subst H;subst L;go_wp2_with fail;refine(nF gD kZ w4).mono ?_;rintro e y ⟨rfl,DR⟩;have oF:=(DR.block c (bM.1 m).1).trans m;have c0:=aq y _ 0 _ _ _ oF;have c1:=aq y _ 1 _ _ _ oF
    have y0:=aP y _ 0 _ _ oF;have y1:=aP y _ 1 _ _ oF
    simp at c0 c1;have hTk:=js c [V gD,V kZ] 0 y;have HX:bW mQ jk w 0 [K #[I J u.c,I J u.a,V u.d,Z uo un gQ,I J u.e] 92 (0,0),K #[I J 0,Z U 0 0,Z U 0 0] 126 (0,0)] iX (fun k=>jk k∧k<w.heap.size) ((y.setCell ⟨c,0,U⟩ (V gD)).setCell ⟨c,1,U⟩ (V kZ))∧Below w.heap.size w ((y.setCell ⟨c,0,U⟩ (V gD)).setCell ⟨c,1,U⟩ (V kZ))∧((y.setCell ⟨c,0,U⟩ (V gD)).setCell ⟨c,1,U⟩ (V kZ)).heap[c]? = M (K #[V gD,V kZ] 148 (0,0)):=by
     have hz:=HZ4.o;have hb:=au jH DR;exact⟨(H4.a ia DR).lH ia hTk hz (fun e=>e.1.elim),(hb.setCell (p:=⟨c,0,U⟩) (by show w.heap.size<=c;omega) _).setCell (p:=⟨c,1,U⟩) (by show w.heap.size<=c;omega) _,aR _ _ 1 _ _ (V kZ) (aR _ _ 0 _ _ (V gD) oF)⟩
    unfold gD kZ at HX;go_wp2;go_meet;exact HX
  | false =>
    have d:=U9;rw[if_neg (fun e=>by have:=D.o.2 e;cases this)] at d;injection d with H L;have l:=HSv.o (by
     rcases Int.lt_or_le u.a 0 with e | e
     . have:=D.o.2 e;cases this
     . exact e)
    rw[<-L] at l;subst H;subst l;go_wp2;go_meet;exact⟨H4,jH,m⟩
 case rest =>
  obtain⟨hT,hB,hr⟩:=hcut;have HT:=hT;have HB:=aa hB;have HR:=aa hr
  have hkl:=(bM.1 hr).1;have Pg:∀W,Below w.heap.size w W->Calls prog 205 #[V dm,I J (un:Int)] W fun e w'=>e=Y (.agg #[V dm,V (eW un)])∧Below W.heap.size W w':=fun W j=>tf dm un un rfl (by omega) W (Dr.o.a j);have HFc:∀W,Calls prog 153 #[V kq,V kr] W fun e w'=>e=Y (.agg #[V kq,V kr])∧Below W.heap.size W w':=fun W=>nF kq kr W;have N:∀W,Below wc.heap.size wc W->W.cell? ⟨w.heap.size,3,U⟩=M (Z uo un gQ)∧W.cell? ⟨c,0,U⟩=M (V f)∧W.cell? ⟨c,1,U⟩=M (V g):=fun W j=>by
   have hr':=(j.block c hkl).trans HR.o;exact⟨(HC _ _ _ (HT.a ia j)).2.2,aq W _ 0 _ _ _ hr',aq W _ 1 _ _ _ hr'⟩
  generalize eW un=n at *;have PK:∀W,Below wc.heap.size wc W->aL (W.alloc (K #[V dm,V n,V f,V g,V kq,V kr] 148)) (w.heap.size+2) 148 2 (M ⟨W.heap.size,0,U⟩) 3 3 (aJ [(dm,n),(f,g),(kq,kr)])∧bW mQ jk w 0 [K #[I J u.c,I J u.a,V u.d,Z uo un gQ,I J u.e] 92 (0,0),K #[I J 0,Z U 0 0,Z U 0 0] 126 (0,0)] iX (fun k=>jk k∧k<w.heap.size) (W.alloc (K #[V dm,V n,V f,V g,V kq,V kr] 148))∧Below w.heap.size w (W.alloc (K #[V dm,V n,V f,V g,V kq,V kr] 148)):=fun W j=>by
   have h1:=HT.a ia j;have s:=(ar _ W).alloc (am _) (K #[V dm,V n,V f,V g,V kq,V kr] 148);exact⟨vx W #[V dm,V n,V f,V g,V kq,V kr] 3 h1.c (by decide) rfl,h1.a ia s,au (au HB.o j) s⟩
  unfold dm at Pg;unfold kq kr at HFc;have s0:=N _ (ar _ _);have S:Below wc.heap.size wc wc.drew:=bg _ _;go_upto_region 4 with fail
  go_cut [4] (fun v4 G=>∃(ao:ag) (t:Nat),v4=Z ao 3 t∧aL G (w.heap.size+2) 148 2 ao t 3 (aJ [(dm,n),(f,g),(kq,kr)])∧bW mQ jk w 0 [K #[I J u.c,I J u.a,V u.d,Z uo un gQ,I J u.e] 92 (0,0),K #[I J 0,Z U 0 0,Z U 0 0] 126 (0,0)] iX (fun k=>jk k∧k<w.heap.size) G∧Below w.heap.size w G)
  case first =>
   go_region_held3 (fun W=>W.cell? ⟨w.heap.size,3,U⟩=M (Z uo un gQ)∧W.cell? ⟨c,0,U⟩=M (V f)∧W.cell? ⟨c,1,U⟩=M (V g)) (go_keep) (first
    | (go_at_call 205;refine(Pg _ (au HB.o (by first | with_reducible exact T.o | with_reducible exact S))).mono ?_;rintro e wC ⟨rfl,hC⟩;have hbC:=au (by first | with_reducible exact T.o | with_reducible exact S) hC;have HbC:=aa hbC;obtain⟨a0,a1,a2⟩:=N _ hbC;clear hC hbC)
    | (go_at_call 153;refine(HFc _).mono ?_;rintro e wF ⟨rfl,hF⟩;have hbF:=au (by first | with_reducible exact HbC.o | with_reducible exact S) hF;have T:=aa hbF;obtain⟨a0,a1,a2⟩:=N _ hbF;clear hF hbF))
   all_goals
    go_wp2;go_meet;first
     | exact⟨_,_,rfl,PK _ T.o⟩
     | exact⟨_,_,rfl,PK _ HbC.o⟩
  case rest =>
   obtain⟨ao,t,rfl,hO,hT,hB⟩:=hcut;have H5:=hT;have oG:=aa hB;have zT:=aa hO
   have x1:=HC _ _ _ H5;obtain⟨bm,hbm⟩:∃b,(u.d.toList==([]:ab))=b:=⟨_,rfl⟩;have eM:u.d.size=0<->bm=true:=by
    rw[<-hbm,cJ,Lib.toList_data];rw[<-xQ,cI];exact Iff.rfl
   cases bm with
   | true =>
     rw[if_pos (eM.2 rfl)] at HD;go_wp2_with fail;refine(oq 200 200 rfl [(dm,n),(f,g),(kq,kr)] ao t 3 wc zT.o.a rfl (by decide)).mono ?_;rintro e w9 ⟨jE,gZ,n9,rfl,lT,kL,qw⟩;obtain⟨⟨z0,z1,z2,y0,y1,y2⟩,HE⟩:=H5.f ia (i:=1) rfl (b:=w.heap.size+1) (by first | rfl | omega) (st:=200) (mI:=200) rfl lT (co (dT _ _) H5.c) kL qw;go_wp2;generalize (((w9.setCell ⟨w.heap.size+1,0,U⟩ (I J 200)).setCell ⟨w.heap.size+1,1,U⟩ (Z jE n9 gZ)).setCell ⟨w.heap.size+1,2,U⟩ (Z U 0 0))=wf at *;obtain⟨q0,q1,q2,q3⟩:=HE.o;refine aS (v:=.agg #[I J 200,Z jE n9 gZ,Z U 0 0]) (by simp[results,results156,go_sem,q0,q1,q2]) rfl ?_;rw[HD.o];exact vY.a q3
   | false =>
     rw[if_neg (fun e=>by have:=eM.1 e;cases this)] at HD;obtain⟨i0,hi0,hz0,hz1,hz2⟩:=info_parts pX;have Hi:=hi0;have kS:=aa hz0;have kM:=aa hz1;have kT:=aa hz2
     go_wp2_with fail;refine(nF ir u.d wc).mono ?_;rintro e w6 ⟨rfl,hw6⟩;have s:=(ar _ w6).alloc (am _) (K #[V ir,V u.d] 148);have H6:=(H5.a ia hw6).a ia s;have ZW:=(zT.o.r hw6).y (K #[V ir,V u.d] 148);have HZ6:w.heap.size+2<=(w6.alloc (K #[V ir,V u.d] 148)).heap.size:=H6.c;have HP6:∀(x:ag) (Gq:Nat) (w7:X),(w6.alloc (K #[V ir,V u.d] 148)).grownBy w7 (aw ao)->bW mQ jk w 0 [K #[I J u.c,I J u.a,V u.d,Z uo un gQ,I J u.e] 92 (0,0),K #[I J 0,Z U 0 0,Z U 0 0] 126 (0,0)] iX (fun k=>jk k∧k<w.heap.size) w7:=fun x Gq w7 hG=>by
      cases ao with
      | none=>exact H6.a ia ((ar _ _).grown hG (am _) (fun q e=>by cases e))
      | some a =>
        have hab:=(ZW.e a rfl).1;exact H6.lH ia (b:=a.block) (ak.y hG (fun k e=>by injection e with e;exact e.symm)) hab (fun e=>e.1.elim)
     unfold ir at H6 ZW HZ6 HP6;go_wp2_with (at_builtin;refine lP rfl (.tmp 22) (.tmp 26) 80 rfl (w.heap.size+2) 148 i0 (.agg #[V ⟨#[]⟩,V ⟨#[]⟩]) 2 32 underlying80 Hi kS.o kM.o kT.o rfl (by decide) rfl ZW rfl (bx.e w6 _ 1 _ _) rfl (wV _ _) (by decide) (by decide) HZ6 ?_;intro x Gq w7 hO7 hG7 _;have H7:=aa (HP6 x Gq w7 hG7);have MP:=aa (oq 200 200 rfl [(dm,n),(f,g),(kq,kr),(ir,u.d)] x Gq 4 w7 hO7.a rfl (by decide));clear hO7 hG7 HP6 ZW H6 HZ6)
     refine MP.o.mono ?_;rintro e w9 ⟨jE,gZ,n9,rfl,lT,kL,qw⟩;obtain⟨⟨z0,z1,z2,y0,y1,y2⟩,HE⟩:=H7.o.f ia (i:=1) rfl (b:=w.heap.size+1) (by first | rfl | omega) (st:=200) (mI:=200) rfl lT (co (dT _ _) H7.o.c) kL qw;go_wp2;generalize (((w9.setCell ⟨w.heap.size+1,0,U⟩ (I J 200)).setCell ⟨w.heap.size+1,1,U⟩ (Z jE n9 gZ)).setCell ⟨w.heap.size+1,2,U⟩ (Z U 0 0))=wf at *;obtain⟨q0,q1,q2,q3⟩:=HE.o;refine aS (v:=.agg #[I J 200,Z jE n9 gZ,Z U 0 0]) (by simp[results,results156,go_sem,q0,q1,q2]) rfl ?_;rw[HD.o];exact vY.a q3
section
variable {g:Nat} {m t:ae} {mi ln:Int} {l:aC} {fo:ag} {fZ nf:Nat} {bo:ag} {fV nb:Nat} {w w0:X} {S:Nat->Prop} {s:av}
theorem MG (p:jU w0 w S)(h:aT w S g s)(ok:aK s)(hF:fX w l fo fZ nf):
 Calls prog 154 #[.agg #[Q (M ⟨g,0,U⟩),V m,V t,I J mi,Z fo nf fZ,I J ln,Z bo nb fV]] w fun e w'=>pa S w g (nu s m l) e w':=by
 have L:bW aT S w g [K #[Q (M ⟨g,0,U⟩),V m,V t,I J mi,Z fo nf fZ,I J ln,Z bo nb fV] 185 (0,0),K #[I J 0,Z U 0 0,Z U 0 0] 126 (0,0)] s (fun k=>S k∧k<w.heap.size) ((w.alloc (K #[Q (M ⟨g,0,U⟩),V m,V t,I J mi,Z fo nf fZ,I J ln,Z bo nb fV] 185)).alloc (K #[I J 0,Z U 0 0,Z U 0 0] 126)):=xq h _;have u:Below w.heap.size w ((w.alloc (K #[Q (M ⟨g,0,U⟩),V m,V t,I J mi,Z fo nf fZ,I J ln,Z bo nb fV] 185)).alloc (K #[I J 0,Z U 0 0,Z U 0 0] 126)):=au ((ar _ w).alloc (am _) _) ((ar _ _).alloc (am _) _);have HC:∀W s' S',bW aT S w g [K #[Q (M ⟨g,0,U⟩),V m,V t,I J mi,Z fo nf fZ,I J ln,Z bo nb fV] 185 (0,0),K #[I J 0,Z U 0 0,Z U 0 0] 126 (0,0)] s' S' W->W.cell? ⟨w.heap.size,0,U⟩=M (Q (M ⟨g,0,U⟩))∧W.cell? ⟨w.heap.size,1,U⟩=M (V m)∧W.cell? ⟨w.heap.size,2,U⟩=M (V t)∧W.cell? ⟨w.heap.size,3,U⟩=M (I J mi)∧W.cell? ⟨w.heap.size,4,U⟩=M (Z fo nf fZ)∧W.cell? ⟨w.heap.size,5,U⟩=M (I J ln)∧W.cell? ⟨w.heap.size,6,U⟩=M (Z bo nb fV):=fun W s' S' hW=>hW.jZ;obtain⟨x0,x1,x2,x3,x4,x5,x6⟩:=HC _ _ _ L;have N:=hF;have sw:=aa ok;have Dr:=aa p
 obtain⟨T,hR⟩:∃T,T=nu s m l:=⟨_,rfl⟩;rw[<-hR];unfold nu at hR;have c:=aa hR;obtain⟨bp,hbp⟩:∃b,(m.toList==([80,79,83,84]:ab))=b:=⟨_,rfl⟩;have eP:m=uU<->bp=true:=by rw[<-hbp];exact oc m uU _ rfl
 go_enter func154,ntmps154;cases bp with
 | false =>
   rw[if_pos (fun e=>by have:=eP.1 e;cases this)] at c;go_wp2_with fail;refine(iC 405 405 rfl _).mono ?_;rintro e D j;obtain⟨f,x,y,z,d⟩:=L.e j;unfold bS at d;subst d;go_wp2;exact⟨rfl,by rw[c.o];exact f.o⟩
 | true =>
   rw[if_neg (fun e=>e (eP.2 rfl))] at c;go_wp2_with fail;refine(fT 405 U 0 0 _).mono ?_;rintro e wq ⟨rfl,hw⟩;rw[hw];cases q:(dg (ba (aQ gd l))).2 with
   | false =>
     rw[if_pos q] at c;have CJ:=QT (g:=g) (m:=m) (t:=t) (mi:=mi) (ln:=ln) (bo:=bo) (fV:=fV) (nb:=nb) (N.a u) q;go_wp2_with fail;refine(CJ).mono ?_;rintro e D j;obtain⟨f,x,y,z,d⟩:=L.e j;unfold bS at d;subst d;go_wp2;exact⟨rfl,by rw[c.o];exact f.o⟩
   | true =>
     rw[if_neg (by rw[q];simp)] at c;obtain⟨hsz1,hsz2⟩:=QU (g:=g) (m:=m) (t:=t) (mi:=mi) (ln:=ln) (bo:=bo) (fV:=fV) (nb:=nb) (N.a u) q;by_cases a:sB l
     . have CJ:=aa (hsz1 a);unfold sB at a;rw[if_pos a] at c;go_wp2_with fail;refine(CJ).mono ?_;rintro e D j;obtain⟨f,x,y,z,d⟩:=L.e j;unfold bS at d;subst d;go_wp2;exact⟨rfl,by rw[c.o];exact f.o⟩
     . have CJ:=aa (hsz2 a);unfold sB at a;rw[if_neg a] at c;generalize (dg (ba (aQ gd l))).1=n at *;go_wp2_with fail;refine CJ.mono ?_;rintro e w3 ⟨rfl,hw3⟩;have B:=au u hw3;have H3:=L.a bG hw3;obtain⟨x0,x1,x2,x3,x4,x5,x6⟩:=HC _ _ _ H3;have hzm:=N.e qU;generalize hvm:ba (aQ qU l)=rm at *;obtain⟨G,cm⟩:=rm;simp only at hzm c;by_cases C:cm=9
       . subst C;rw[if_pos rfl] at c;have H:=ru (g:=g) (m:=m) (t:=t) (mi:=mi) (ln:=ln) (bo:=bo) (fV:=fV) (nb:=nb) ir (by decide) (N.a B) (by rw[GW];exact hvm);unfold ir at H;go_wp2_with fail;refine(H).mono ?_;rintro e D j;obtain⟨f,x,y,z,d⟩:=H3.e j;unfold bS at d;subst d;go_wp2;exact⟨rfl,by rw[c.o];exact f.o⟩
       . rw[if_neg C] at c;have H:=rt (g:=g) (m:=m) (t:=t) (mi:=mi) (ln:=ln) (bo:=bo) (fV:=fV) (nb:=nb) ir (by decide) (N.a B) (by rw[GW];exact hvm) C;unfold ir at H;generalize decide (cm=0)=cb at *;have hzz:(gB G).size<=1000000:=by rw[GM];omega
         rw[show(⟨G.toArray⟩:ae)=gB G from rfl] at H;have JZ:(cw s n (gB G)).2≠0->(cw s n (gB G)).1=s:=fun e=>by unfold cw at e ⊢;exact pL e
         generalize gB G=mb at *;go_wp2_with fail;refine H.mono ?_;rintro e w4 ⟨rfl,hw4⟩;have jH:=au B hw4;have H4:=H3.a bG hw4;obtain⟨x0,x1,x2,x3,x4,x5,x6⟩:=HC _ _ _ H4;have Ms:=BU H4.b sw.o n mb hzz;go_wp2_with fail;refine Ms.mono ?_;rintro e w5 ⟨rfl,hat,hT⟩;have H5:=H4.j hat hT;generalize cw s n mb=ra at *;obtain⟨sa,ca⟩:=ra;simp only at c JZ H5 ⊢;obtain⟨x0,x1,x2,x3,x4,x5,x6⟩:=HC _ _ _ H5;by_cases r:ca=0
         . subst r;rw[if_neg (by simp)] at c;have aix:=sw.o.h.c;have aiy:=sw.o.q;have Uf:nj s 0=s.h.a+1:=by unfold nj;rw[if_pos rfl]
           rw[Uf];have YB:∀W,di W->Calls prog 141 #[I J (s.h.a+1)] W fun e w'=>e=Y (V (eW (s.h.a+1).toNat))∧Below W.heap.size W w':=fun W hW=>by
            have:=mD (s.h.a+1).toNat (by omega) W hW;rw[show(((s.h.a+1).toNat:Nat):Int)=s.h.a+1 from by omega] at this;exact this
           have hdz:(eW (s.h.a+1).toNat).size<=9:=by
            show(bw 8 _).toArray.size<=9;rw[cx];have:=gz 8 (s.h.a+1).toNat;omega
           generalize eW (s.h.a+1).toNat=db at *;generalize s.h.a+1=lid at *;go_wp2_with fail;refine(ya _).mono ?_;rintro e wq ⟨rfl,hw⟩;rw[hw];have JB:=rl H5.b;go_wp2_with fail;refine JB.mono ?_;rintro e w6 ⟨rfl,vI,CU⟩;have H6:=H5.lG vI CU;have HI6:=YB w6 (H6.y Dr.o);go_wp2_with fail;refine HI6.mono ?_;rintro e w7 ⟨rfl,hw7⟩;have H7:=H6.a bG hw7;have Kl:=nF qT (ku++db) w7;unfold qT ku at Kl;go_wp2_with fail;refine Kl.mono ?_;rintro e w8 ⟨rfl,hw8⟩;have H8:=(H7.a bG hw8).a bG ((ar _ w8).alloc (am _) (K #[V qT,V (ku++db)] 148));have MP:=oq 201 201 rfl [(qT,ku++db)] (M ⟨w8.heap.size,0,U⟩) 1 1 _ (bx.e w8 #[V qT,V (ku++db)] 1 148 (0,0)) rfl (by decide);unfold qT ku at MP H8;go_wp2_with fail;refine MP.mono ?_;rintro e D ⟨x,y,z,rfl,lT,kL,qw⟩;obtain⟨⟨z0,z1,z2,y0,y1,y2⟩,f⟩:=H8.f bG (i:=1) rfl (b:=w.heap.size+1) (by first | rfl | omega) (st:=201) (mI:=201) rfl lT (co (dT _ _) H8.c) kL qw;go_wp2;generalize (((D.setCell ⟨w.heap.size+1,0,U⟩ (I J 201)).setCell ⟨w.heap.size+1,1,U⟩ (Z x z y)).setCell ⟨w.heap.size+1,2,U⟩ (Z U 0 0))=wf at *;obtain⟨q0,q1,q2,q3⟩:=f.o;refine aS (v:=.agg #[I J 201,Z x z y,Z U 0 0]) (by simp[results,results154,go_sem,q0,q1,q2]) rfl ?_;rw[c.o];exact pa.a q3
         . rw[if_pos r] at c;have hsa:=JZ r;subst hsa;have HNd:=yi ca r w5;generalize nj sa ca=nn at *;go_wp2_with fail;refine(HNd).mono ?_;rintro e D j;obtain⟨f,x,y,z,d⟩:=H5.e j;unfold bS at d;subst d;go_wp2;exact⟨rfl,by rw[c.o];exact f.o⟩
end
section
variable {g:Nat} {m t:ae} {mi ln:Int} {l:aC} {fo:ag} {fZ nf:Nat} {bo:ag} {fV nb:Nat} {w w0:X} {S:Nat->Prop} {s:av}
theorem bW.kW {O:nB}{S':Nat->Prop}{bs:List Obj}{W:X}(h:bW O S w g bs s S' W)(p:jU w0 w S):jU w0 W S' :=
 ⟨p.c, p.a.trans (h.h.below (fun k e => p.b k e.1) p.a.size), fun k e => by
  have b:=p.a.size;rcases h.d k e with a | a
  . exact p.b k a.1
  . omega⟩
theorem Op (p:jU w0 w S)(h:aT w S g s)(ok:aK s)(hF:fX w l fo fZ nf)(body:ab)(hb:body.length=nb)(hB:az w bo fV body)(hnb:nb<=100000)(ht:t.size<=100000):
 Calls prog 97 #[.agg #[Q (M ⟨g,0,U⟩),V m,V t,I J mi,Z fo nf fZ,I J ln,Z bo nb fV]] w fun e w'=>pa S w g (br s m t l body) e w':=by
 have T2:bW aT S w g [K #[Q (M ⟨g,0,U⟩),V m,V t,I J mi,Z fo nf fZ,I J ln,Z bo nb fV] 185 (0,0),K #[I J 0,Z U 0 0,Z U 0 0] 126 (0,0)] s (fun k=>S k∧k<w.heap.size) ((w.alloc (K #[Q (M ⟨g,0,U⟩),V m,V t,I J mi,Z fo nf fZ,I J ln,Z bo nb fV] 185)).alloc (K #[I J 0,Z U 0 0,Z U 0 0] 126)):=xq h _;have N:Hid (Below w.heap.size w ((w.alloc (K #[Q (M ⟨g,0,U⟩),V m,V t,I J mi,Z fo nf fZ,I J ln,Z bo nb fV] 185)).alloc (K #[I J 0,Z U 0 0,Z U 0 0] 126))):=au ((ar _ w).alloc (am _) _) ((ar _ _).alloc (am _) _);have HC:Hid (∀W s' S',bW aT S w g [K #[Q (M ⟨g,0,U⟩),V m,V t,I J mi,Z fo nf fZ,I J ln,Z bo nb fV] 185 (0,0),K #[I J 0,Z U 0 0,Z U 0 0] 126 (0,0)] s' S' W->W.cell? ⟨w.heap.size,0,U⟩=M (Q (M ⟨g,0,U⟩))∧W.cell? ⟨w.heap.size,1,U⟩=M (V m)∧W.cell? ⟨w.heap.size,2,U⟩=M (V t)∧W.cell? ⟨w.heap.size,3,U⟩=M (I J mi)∧W.cell? ⟨w.heap.size,4,U⟩=M (Z fo nf fZ)∧W.cell? ⟨w.heap.size,5,U⟩=M (I J ln)∧W.cell? ⟨w.heap.size,6,U⟩=M (Z bo nb fV)):=fun W s' S' hW=>hW.jZ;obtain⟨x0,x1,x2,x3,x4,x5,x6⟩:=HC.o _ _ _ T2;have H2:=aa T2;have HF:=aa hF;have sw:=aa ok;have Dr:=aa p;have yN:=aa hB;have HBl:=aa hb
 clear T2 hF ok p h hB hb;obtain⟨aaT,hR⟩:∃aaT,aaT=br s m t l body:=⟨_,rfl⟩;rw[<-hR];unfold br at hR;have a:=aa hR;clear hR;obtain⟨bf,hbf⟩:∃b,(t.toList==([47,102,105,108,101,115]:ab))=b:=⟨_,rfl⟩;have eF:t=od<->bf=true:=by rw[<-hbf];exact oc t od _ rfl
 obtain⟨bo_,aiA⟩:∃b,(m.toList==([79,80,84,73,79,78,83]:ab))=b:=⟨_,rfl⟩;have eO:m=Bl<->bo_=true:=by rw[<-aiA];exact oc m Bl _ rfl
 go_enter func97,ntmps97;cases bf with
 | true =>
   have HTf:=aa (eF.2 rfl);cases bo_ with
   | true =>
     rw[if_pos ⟨eF.2 rfl,eO.2 rfl⟩] at a;have HOp:Hid (Calls prog 150 #[] ((w.alloc (K #[Q (M ⟨g,0,U⟩),V m,V t,I J mi,Z fo nf fZ,I J ln,Z bo nb fV] 185)).alloc (K #[I J 0,Z U 0 0,Z U 0 0] 126)) fun e w'=>∃(ao:ag) (cap k:Nat),e=Y (.agg #[I J 204,Z ao k cap,Z U 0 0])∧(bR 204 [(eg,cG),(nt,nw),(oa,ob)]).2.length=k∧aL w' ((w.alloc (K #[Q (M ⟨g,0,U⟩),V m,V t,I J mi,Z fo nf fZ,I J ln,Z bo nb fV] 185)).alloc (K #[I J 0,Z U 0 0,Z U 0 0] 126)).heap.size 148 2 ao cap k (aJ (bR 204 [(eg,cG),(nt,nw),(oa,ob)]).2)∧Below ((w.alloc (K #[Q (M ⟨g,0,U⟩),V m,V t,I J mi,Z fo nf fZ,I J ln,Z bo nb fV] 185)).alloc (K #[I J 0,Z U 0 0,Z U 0 0] 126)).heap.size ((w.alloc (K #[Q (M ⟨g,0,U⟩),V m,V t,I J mi,Z fo nf fZ,I J ln,Z bo nb fV] 185)).alloc (K #[I J 0,Z U 0 0,Z U 0 0] 126)) w'):=LI _ (H2.o.y Dr.o);clear eF eO;go_wp2_with fail;refine HOp.o.mono ?_;rintro e y ⟨j,n,q,rfl,f,c,C⟩;obtain⟨⟨z0,z1,z2,y0,y1,y2⟩,d⟩:=H2.o.f bG (i:=1) rfl (b:=w.heap.size+1) (by first | rfl | omega) (st:=204) (mI:=204) rfl f (co (dT _ _) H2.o.c) c C;clear f c C;go_wp2;generalize (((y.setCell ⟨w.heap.size+1,0,U⟩ (I J 204)).setCell ⟨w.heap.size+1,1,U⟩ (Z j q n)).setCell ⟨w.heap.size+1,2,U⟩ (Z U 0 0))=wf at *;obtain⟨q0,q1,q2,q3⟩:=d.o;refine aS (v:=.agg #[I J 204,Z j q n,Z U 0 0]) (by simp[results,results97,go_sem,q0,q1,q2]) rfl ?_;rw[a.o];exact pa.a q3
   | false =>
     rw[if_neg (fun e=>by have:=eO.1 e.2;cases this)] at a;clear eF eO;have DN:=HF.o.e oU;generalize RY:ba (aQ oU l)=rr at *;obtain⟨vr,cr⟩:=rr;simp only at DN a;by_cases RZ:cr=9
     . subst RZ;rw[if_pos rfl] at a;have HT:=aa (ru (g:=g) (m:=m) (t:=t) (mi:=mi) (ln:=ln) (bo:=bo) (fV:=fV) (nb:=nb) fu (by decide) (HF.o.a N.o) (by rw[sA];exact RY));unfold fu at HT;clear RY DN;go_wp2_with fail;refine(HT.o).mono ?_;rintro e y hG;obtain⟨d,j,n,q,he⟩:=H2.o.e hG;unfold bS at he;subst he;clear hG;go_wp2;exact⟨rfl,by rw[a.o];exact d.o⟩
     rw[if_neg RZ] at a;have HT:=aa (rt (g:=g) (m:=m) (t:=t) (mi:=mi) (ln:=ln) (bo:=bo) (fV:=fV) (nb:=nb) fu (by decide) (HF.o.a N.o) (by rw[sA];exact RY) RZ);unfold fu at HT;clear RY DN RZ;generalize decide (cr=0)=cb at *;obtain⟨bv,hbv⟩:∃b,((⟨vr.toArray⟩:ae).toList==([49,46,48,46,48]:ab))=b:=⟨_,rfl⟩;have eV:vr=cG.data.toList<->bv=true:=by rw[<-hbv];exact xF vr _
     generalize (⟨vr.toArray⟩:ae)=vb at *;go_wp2_with fail;refine(HT.o).mono ?_;rintro e w3 ⟨rfl,r⟩;have HB3:=aa (au N.o r);have H3:=aa (H2.o.a bG r);clear r H2 N x0 x1 x2 x3 x4 x5 x6;obtain⟨x0,x1,x2,x3,x4,x5,x6⟩:=HC.o _ _ _ H3.o;clear HT;have Kl:=aa (nF eg cG w3);unfold eg cG at Kl;go_wp2_with fail;refine Kl.o.mono ?_;rintro e w4 ⟨rfl,r⟩;have x:=(ar _ w4).alloc (am _) (K #[V eg,V cG] 148);have D:=aa ((H3.o.a bG r).a bG x);have jH:=aa (au (au HB3.o r) x);have oD:=aa (yB 412 412 rfl [(eg,cG)] (M ⟨w4.heap.size,0,U⟩) 1 1 _ (bx.e w4 #[V eg,V cG] 1 148 (0,0)) rfl (by decide));clear r x Kl H3 HB3 x0 x1 x2 x3 x4 x5 x6;cases bv with
     | false =>
       rw[if_pos (fun e=>by have:=eV.1 e;cases this)] at a;unfold eg cG at oD D;go_wp2_with fail;refine(oD.o).mono ?_;rintro e y hG;obtain⟨d,j,n,q,he⟩:=D.o.e hG;unfold bS at he;subst he;clear hG;go_wp2;exact⟨rfl,by rw[a.o];exact d.o⟩
     | true =>
     rw[if_neg (fun e=>e (eV.2 rfl))] at a;clear eV oD;obtain⟨x0,x1,x2,x3,x4,x5,x6⟩:=HC.o _ _ _ D.o;unfold eg cG at x0 x1 x2 x3 x4 x5 x6 D jH;go_wp2_with fail;refine(fT 412 _ _ _ _).mono ?_;rintro e wq ⟨rfl,r⟩;rw[r];clear r;generalize (w4.alloc (K #[V ⟨#[84,117,115,45,86,101,114,115,105,111,110]⟩,V ⟨#[49,46,48,46,48]⟩] 148))=w5 at *;rw[if_pos HTf.o] at a;have Ms:=aa (MG (g:=g) (m:=m) (t:=t) (mi:=mi) (ln:=ln) (bo:=bo) (fV:=fV) (nb:=nb) (D.o.kW Dr.o) D.o.b sw.o (HF.o.a jH.o));generalize nu s m l=r9 at *;obtain⟨sr,st,lr⟩:=r9;go_wp2_with fail;refine(Ms.o).mono ?_;rintro e y hE;cases hE with
     | @gave j n q _ f c G H =>
       have d:=aa (D.o.jL f c G H);unfold bS at d ⊢;clear f c G H;go_wp2;exact⟨rfl,by rw[a.o];exact d.o⟩
     | @ret j n q _ f c G H =>
       have IV:=D.o.j G H;replace c:=c.j (co (dT _ _) D.o.c);have C:=ar y.heap.size y;obtain⟨⟨z0,z1,z2,y0,y1,y2⟩,d⟩:=IV.f bG (i:=1) rfl (b:=w.heap.size+1) (by first | rfl | omega) (st:=st) (mI:=(st:Int)) rfl f (am _) c C;clear f c C G H IV;go_wp2;generalize (((y.setCell ⟨w.heap.size+1,0,U⟩ (I J (st:Int))).setCell ⟨w.heap.size+1,1,U⟩ (Z j q n)).setCell ⟨w.heap.size+1,2,U⟩ (Z U 0 0))=wf at *;obtain⟨q0,q1,q2,q3⟩:=d.o;refine aS (v:=.agg #[I J (st:Int),Z j q n,Z U 0 0]) (by simp[results,results97,go_sem,q0,q1,q2]) rfl ?_;rw[a.o];exact pa.a q3
 | false =>
   have HTf:Hid (¬t=od):=fun e=>by have:=eF.1 e;cases this
   rw[if_neg (fun e=>HTf.o e.1)] at a;clear eF eO;cases bo_ with
   | true =>
     have DN:=HF.o.e oU;generalize RY:ba (aQ oU l)=rr at *;obtain⟨vr,cr⟩:=rr;simp only at DN a;by_cases RZ:cr=9
     . subst RZ;rw[if_pos rfl] at a;have HT:=aa (ru (g:=g) (m:=m) (t:=t) (mi:=mi) (ln:=ln) (bo:=bo) (fV:=fV) (nb:=nb) fu (by decide) (HF.o.a N.o) (by rw[sA];exact RY));unfold fu at HT;clear RY DN;go_wp2_with fail;refine(HT.o).mono ?_;rintro e y hG;obtain⟨d,j,n,q,he⟩:=H2.o.e hG;unfold bS at he;subst he;clear hG;go_wp2;exact⟨rfl,by rw[a.o];exact d.o⟩
     rw[if_neg RZ] at a;have HT:=aa (rt (g:=g) (m:=m) (t:=t) (mi:=mi) (ln:=ln) (bo:=bo) (fV:=fV) (nb:=nb) fu (by decide) (HF.o.a N.o) (by rw[sA];exact RY) RZ);unfold fu at HT;clear RY DN RZ;generalize decide (cr=0)=cb at *;obtain⟨bv,hbv⟩:∃b,((⟨vr.toArray⟩:ae).toList==([49,46,48,46,48]:ab))=b:=⟨_,rfl⟩;have eV:vr=cG.data.toList<->bv=true:=by rw[<-hbv];exact xF vr _
     generalize (⟨vr.toArray⟩:ae)=vb at *;go_wp2_with fail;refine(HT.o).mono ?_;rintro e w3 ⟨rfl,r⟩;have HB3:=aa (au N.o r);have H3:=aa (H2.o.a bG r);clear r H2 N x0 x1 x2 x3 x4 x5 x6;obtain⟨x0,x1,x2,x3,x4,x5,x6⟩:=HC.o _ _ _ H3.o;clear HT;have Kl:=aa (nF eg cG w3);unfold eg cG at Kl;go_wp2_with fail;refine Kl.o.mono ?_;rintro e w4 ⟨rfl,r⟩;have x:=(ar _ w4).alloc (am _) (K #[V eg,V cG] 148);have D:=aa ((H3.o.a bG r).a bG x);have jH:=aa (au (au HB3.o r) x);have oD:=aa (yB 412 412 rfl [(eg,cG)] (M ⟨w4.heap.size,0,U⟩) 1 1 _ (bx.e w4 #[V eg,V cG] 1 148 (0,0)) rfl (by decide));clear r x Kl H3 HB3 x0 x1 x2 x3 x4 x5 x6;cases bv with
     | false =>
       rw[if_pos (fun e=>by have:=eV.1 e;cases this)] at a;unfold eg cG at oD D;go_wp2_with fail;refine(oD.o).mono ?_;rintro e y hG;obtain⟨d,j,n,q,he⟩:=D.o.e hG;unfold bS at he;subst he;clear hG;go_wp2;exact⟨rfl,by rw[a.o];exact d.o⟩
     | true =>
     rw[if_neg (fun e=>e (eV.2 rfl))] at a;clear eV oD;obtain⟨x0,x1,x2,x3,x4,x5,x6⟩:=HC.o _ _ _ D.o;unfold eg cG at x0 x1 x2 x3 x4 x5 x6 D jH;go_wp2_with fail;refine(fT 412 _ _ _ _).mono ?_;rintro e wq ⟨rfl,r⟩;rw[r];clear r;generalize (w4.alloc (K #[V ⟨#[84,117,115,45,86,101,114,115,105,111,110]⟩,V ⟨#[49,46,48,46,48]⟩] 148))=w5 at *;rw[if_neg HTf.o] at a;obtain⟨Qg,Qh⟩:=B6 (g:=g) (m:=m) (t:=t) (mi:=mi) (ln:=ln) (fo:=fo) (fZ:=fZ) (nf:=nf) (bo:=bo) (fV:=fV) (nb:=nb) D.o.b sw.o (D.o.y Dr.o) ht;cases Qi:lJ s.h t with
     | none =>
       rw[Qi] at a;simp only at a;have MS:=aa (Qg Qi);clear Qg Qh Qi;go_wp2_with fail;refine(MS.o).mono ?_;rintro e y hG;obtain⟨d,j,n,q,he⟩:=D.o.e hG;unfold bS at he;subst he;clear hG;go_wp2;exact⟨rfl,by rw[a.o];exact d.o⟩
     | some u =>
     rw[Qi] at a;simp only at a;have MS:=aa (Qh u Qi);have hmem:=(Bj Qi).1;have huo:=sw.o.h.a u hmem;have RL:=huo.a;have hs0:=huo.c;have hs1:=huo.d
     clear Qg Qh Qi hmem huo;obtain⟨L,hun⟩:∃L,u.b.length=L:=⟨_,rfl⟩;have HUn:=aa hun;rw[hun] at RL;rw[hun] at MS;clear hun;go_wp2_with fail;refine MS.o.mono ?_;rintro e z ⟨T,gQ,rfl,r⟩;have x:=(ar _ z).alloc (am _) (K #[I J u.c,I J u.a,V u.d,Z T L gQ,I J u.e] 92);have B:=aa ((D.o.a bG r).a bG x);have wL:=aa (au (au jH.o r) x);clear r x MS D jH x0 x1 x2 x3 x4 x5 x6;obtain⟨x0,x1,x2,x3,x4,x5,x6⟩:=HC.o _ _ _ B.o;have v0:(z.alloc (K #[I J u.c,I J u.a,V u.d,Z T L gQ,I J u.e] 92)).cell? ⟨z.heap.size,0,U⟩=M (I J u.c):=World.cell?_alloc_mark z _ _ _ 0;have v1:(z.alloc (K #[I J u.c,I J u.a,V u.d,Z T L gQ,I J u.e] 92)).cell? ⟨z.heap.size,1,U⟩=M (I J u.a):=World.cell?_alloc_mark z _ _ _ 1;have v2:(z.alloc (K #[I J u.c,I J u.a,V u.d,Z T L gQ,I J u.e] 92)).cell? ⟨z.heap.size,2,U⟩=M (V u.d):=World.cell?_alloc_mark z _ _ _ 2;have v3:(z.alloc (K #[I J u.c,I J u.a,V u.d,Z T L gQ,I J u.e] 92)).cell? ⟨z.heap.size,3,U⟩=M (Z T L gQ):=World.cell?_alloc_mark z _ _ _ 3;have v4:(z.alloc (K #[I J u.c,I J u.a,V u.d,Z T L gQ,I J u.e] 92)).cell? ⟨z.heap.size,4,U⟩=M (I J u.e):=World.cell?_alloc_mark z _ _ _ 4;go_upto_region 8 with fail
     generalize (z.alloc (K #[I J u.c,I J u.a,V u.d,Z T L gQ,I J u.e] 92))=w7 at *;generalize z.heap.size=k6 at *;unfold qS at a;obtain⟨bh,hbh⟩:∃b,(m.toList==([72,69,65,68]:ab))=b:=⟨_,rfl⟩;have eH:m=uV<->bh=true:=by rw[<-hbh];exact oc m uV _ rfl
     cases bh with
     | true =>
       rw[if_pos (eH.2 rfl)] at a;have HDs:Hid (Calls prog 156 #[.agg #[I J u.c,I J u.a,V u.d,Z T L gQ,I J u.e]] w7 fun e w'=>∃(ao:ag) (cap k:Nat),e=Y (.agg #[I J 200,Z ao k cap,Z U 0 0])∧(jN u).2.length=k∧aL w' w7.heap.size 148 2 ao cap k (aJ (jN u).2)∧Below w7.heap.size w7 w'):=Ii u T L gQ HUn.o hs0 hs1 RL w7 (B.o.y Dr.o);have R3:Hid (jN u=(200,(jN u).2)):=by unfold Hid;rfl
       rw[R3.o] at a;clear eH R3;generalize (jN u).2=lh at *;go_wp2_with fail;refine HDs.o.mono ?_;rintro e y ⟨j,n,q,rfl,f,c,C⟩;obtain⟨⟨z0,z1,z2,y0,y1,y2⟩,d⟩:=B.o.f bG (i:=1) rfl (b:=w.heap.size+1) (by first | rfl | omega) (st:=200) (mI:=200) rfl f (co (dT _ _) B.o.c) c C;clear f c C;go_wp2;generalize (((y.setCell ⟨w.heap.size+1,0,U⟩ (I J 200)).setCell ⟨w.heap.size+1,1,U⟩ (Z j q n)).setCell ⟨w.heap.size+1,2,U⟩ (Z U 0 0))=wf at *;obtain⟨q0,q1,q2,q3⟩:=d.o;refine aS (v:=.agg #[I J 200,Z j q n,Z U 0 0]) (by simp[results,results97,go_sem,q0,q1,q2]) rfl ?_;rw[a.o];exact pa.a q3
     | false =>
     rw[if_neg (fun e=>by have:=eH.1 e;cases this)] at a;clear eH;obtain⟨bt,hbt⟩:∃b,(m.toList==([80,65,84,67,72]:ab))=b:=⟨_,rfl⟩;have eT:m=uZ<->bt=true:=by rw[<-hbt];exact oc m uZ _ rfl
     cases bt with
     | true =>
       rw[if_neg (fun e=>by have:=(eT.2 rfl).symm.trans e;revert this;decide),if_pos (eT.2 rfl)] at a;have HEx:=aa (B8 (g:=g) (m:=m) (t:=t) (mi:=mi) (ln:=ln) (bo:=bo) (fV:=fV) (nb:=nb) (B.o.kW Dr.o) B.o.b sw.o (HF.o.a wL.o) body HBl.o (yN.o.a wL.o) hnb u T L gQ HUn.o RL hs0);clear eT;generalize mw s u l body=r9 at *;obtain⟨sr,st,lr⟩:=r9;go_wp2_with fail;refine(HEx.o).mono ?_;rintro e y hE;cases hE with
       | @gave j n q _ f c G H =>
         have d:=aa (B.o.jL f c G H);unfold bS at d ⊢;clear f c G H;go_wp2;exact⟨rfl,by rw[a.o];exact d.o⟩
       | @ret j n q _ f c G H =>
         have IV:=B.o.j G H;replace c:=c.j (co (dT _ _) B.o.c);have C:=ar y.heap.size y;obtain⟨⟨z0,z1,z2,y0,y1,y2⟩,d⟩:=IV.f bG (i:=1) rfl (b:=w.heap.size+1) (by first | rfl | omega) (st:=st) (mI:=(st:Int)) rfl f (am _) c C;clear f c C G H IV;go_wp2;generalize (((y.setCell ⟨w.heap.size+1,0,U⟩ (I J (st:Int))).setCell ⟨w.heap.size+1,1,U⟩ (Z j q n)).setCell ⟨w.heap.size+1,2,U⟩ (Z U 0 0))=wf at *;obtain⟨q0,q1,q2,q3⟩:=d.o;refine aS (v:=.agg #[I J (st:Int),Z j q n,Z U 0 0]) (by simp[results,results97,go_sem,q0,q1,q2]) rfl ?_;rw[a.o];exact pa.a q3
     | false =>
     obtain⟨bd,hbd⟩:∃b,(m.toList==([68,69,76,69,84,69]:ab))=b:=⟨_,rfl⟩;have eD:m=uX<->bd=true:=by rw[<-hbd];exact oc m uX _ rfl
     cases bd with
     | true =>
       rw[if_pos (eD.2 rfl)] at a;have HRe:=aa (B7 (g:=g) (m:=m) (t:=t) (mi:=mi) (ln:=ln) (fo:=fo) (fZ:=fZ) (nf:=nf) (bo:=bo) (fV:=fV) (nb:=nb) B.o.b sw.o u T L gQ);clear eT eD;generalize (eG (gc s u.c).1,bR 204 [])=r9 at *;obtain⟨sr,st,lr⟩:=r9;go_wp2_with fail;refine(HRe.o).mono ?_;rintro e y hE;cases hE with
       | @gave j n q _ f c G H =>
         have d:=aa (B.o.jL f c G H);unfold bS at d ⊢;clear f c G H;go_wp2;exact⟨rfl,by rw[a.o];exact d.o⟩
       | @ret j n q _ f c G H =>
         have IV:=B.o.j G H;replace c:=c.j (co (dT _ _) B.o.c);have C:=ar y.heap.size y;obtain⟨⟨z0,z1,z2,y0,y1,y2⟩,d⟩:=IV.f bG (i:=1) rfl (b:=w.heap.size+1) (by first | rfl | omega) (st:=st) (mI:=(st:Int)) rfl f (am _) c C;clear f c C G H IV;go_wp2;generalize (((y.setCell ⟨w.heap.size+1,0,U⟩ (I J (st:Int))).setCell ⟨w.heap.size+1,1,U⟩ (Z j q n)).setCell ⟨w.heap.size+1,2,U⟩ (Z U 0 0))=wf at *;obtain⟨q0,q1,q2,q3⟩:=d.o;refine aS (v:=.agg #[I J (st:Int),Z j q n,Z U 0 0]) (by simp[results,results97,go_sem,q0,q1,q2]) rfl ?_;rw[a.o];exact pa.a q3
     | false =>
     rw[if_neg (fun e=>by have:=eD.1 e;cases this),if_neg (fun e=>by have:=eT.1 e;cases this)] at a;have MP:=aa (oq 405 405 rfl [] U 0 0 w7 (bx.j w7) rfl (by decide));clear eT eD;go_wp2_with fail;refine MP.o.mono ?_;rintro e y ⟨j,n,q,rfl,f,c,C⟩;obtain⟨⟨z0,z1,z2,y0,y1,y2⟩,d⟩:=B.o.f bG (i:=1) rfl (b:=w.heap.size+1) (by first | rfl | omega) (st:=405) (mI:=405) rfl f (co (dT _ _) B.o.c) c C;clear f c C;go_wp2;generalize (((y.setCell ⟨w.heap.size+1,0,U⟩ (I J 405)).setCell ⟨w.heap.size+1,1,U⟩ (Z j q n)).setCell ⟨w.heap.size+1,2,U⟩ (Z U 0 0))=wf at *;obtain⟨q0,q1,q2,q3⟩:=d.o;refine aS (v:=.agg #[I J 405,Z j q n,Z U 0 0]) (by simp[results,results97,go_sem,q0,q1,q2]) rfl ?_;rw[a.o];exact pa.a q3
   | false =>
     have DN:=HF.o.e oU;generalize RY:ba (aQ oU l)=rr at *;obtain⟨vr,cr⟩:=rr;simp only at DN a;by_cases RZ:cr=9
     . subst RZ;rw[if_pos rfl] at a;have HT:=aa (ru (g:=g) (m:=m) (t:=t) (mi:=mi) (ln:=ln) (bo:=bo) (fV:=fV) (nb:=nb) fu (by decide) (HF.o.a N.o) (by rw[sA];exact RY));unfold fu at HT;clear RY DN;go_wp2_with fail;refine(HT.o).mono ?_;rintro e y hG;obtain⟨d,j,n,q,he⟩:=H2.o.e hG;unfold bS at he;subst he;clear hG;go_wp2;exact⟨rfl,by rw[a.o];exact d.o⟩
     rw[if_neg RZ] at a;have HT:=aa (rt (g:=g) (m:=m) (t:=t) (mi:=mi) (ln:=ln) (bo:=bo) (fV:=fV) (nb:=nb) fu (by decide) (HF.o.a N.o) (by rw[sA];exact RY) RZ);unfold fu at HT;clear RY DN RZ;generalize decide (cr=0)=cb at *;obtain⟨bv,hbv⟩:∃b,((⟨vr.toArray⟩:ae).toList==([49,46,48,46,48]:ab))=b:=⟨_,rfl⟩;have eV:vr=cG.data.toList<->bv=true:=by rw[<-hbv];exact xF vr _
     generalize (⟨vr.toArray⟩:ae)=vb at *;go_wp2_with fail;refine(HT.o).mono ?_;rintro e w3 ⟨rfl,r⟩;have HB3:=aa (au N.o r);have H3:=aa (H2.o.a bG r);clear r H2 N x0 x1 x2 x3 x4 x5 x6;obtain⟨x0,x1,x2,x3,x4,x5,x6⟩:=HC.o _ _ _ H3.o;clear HT;have Kl:=aa (nF eg cG w3);unfold eg cG at Kl;go_wp2_with fail;refine Kl.o.mono ?_;rintro e w4 ⟨rfl,r⟩;have x:=(ar _ w4).alloc (am _) (K #[V eg,V cG] 148);have D:=aa ((H3.o.a bG r).a bG x);have jH:=aa (au (au HB3.o r) x);have oD:=aa (yB 412 412 rfl [(eg,cG)] (M ⟨w4.heap.size,0,U⟩) 1 1 _ (bx.e w4 #[V eg,V cG] 1 148 (0,0)) rfl (by decide));clear r x Kl H3 HB3 x0 x1 x2 x3 x4 x5 x6;cases bv with
     | false =>
       rw[if_pos (fun e=>by have:=eV.1 e;cases this)] at a;unfold eg cG at oD D;go_wp2_with fail;refine(oD.o).mono ?_;rintro e y hG;obtain⟨d,j,n,q,he⟩:=D.o.e hG;unfold bS at he;subst he;clear hG;go_wp2;exact⟨rfl,by rw[a.o];exact d.o⟩
     | true =>
     rw[if_neg (fun e=>e (eV.2 rfl))] at a;clear eV oD;obtain⟨x0,x1,x2,x3,x4,x5,x6⟩:=HC.o _ _ _ D.o;unfold eg cG at x0 x1 x2 x3 x4 x5 x6 D jH;go_wp2_with fail;refine(fT 412 _ _ _ _).mono ?_;rintro e wq ⟨rfl,r⟩;rw[r];clear r;generalize (w4.alloc (K #[V ⟨#[84,117,115,45,86,101,114,115,105,111,110]⟩,V ⟨#[49,46,48,46,48]⟩] 148))=w5 at *;rw[if_neg HTf.o] at a;obtain⟨Qg,Qh⟩:=B6 (g:=g) (m:=m) (t:=t) (mi:=mi) (ln:=ln) (fo:=fo) (fZ:=fZ) (nf:=nf) (bo:=bo) (fV:=fV) (nb:=nb) D.o.b sw.o (D.o.y Dr.o) ht;cases Qi:lJ s.h t with
     | none =>
       rw[Qi] at a;simp only at a;have MS:=aa (Qg Qi);clear Qg Qh Qi;go_wp2_with fail;refine(MS.o).mono ?_;rintro e y hG;obtain⟨d,j,n,q,he⟩:=D.o.e hG;unfold bS at he;subst he;clear hG;go_wp2;exact⟨rfl,by rw[a.o];exact d.o⟩
     | some u =>
     rw[Qi] at a;simp only at a;have MS:=aa (Qh u Qi);have hmem:=(Bj Qi).1;have huo:=sw.o.h.a u hmem;have RL:=huo.a;have hs0:=huo.c;have hs1:=huo.d
     clear Qg Qh Qi hmem huo;obtain⟨L,hun⟩:∃L,u.b.length=L:=⟨_,rfl⟩;have HUn:=aa hun;rw[hun] at RL;rw[hun] at MS;clear hun;go_wp2_with fail;refine MS.o.mono ?_;rintro e z ⟨T,gQ,rfl,r⟩;have x:=(ar _ z).alloc (am _) (K #[I J u.c,I J u.a,V u.d,Z T L gQ,I J u.e] 92);have B:=aa ((D.o.a bG r).a bG x);have wL:=aa (au (au jH.o r) x);clear r x MS D jH x0 x1 x2 x3 x4 x5 x6;obtain⟨x0,x1,x2,x3,x4,x5,x6⟩:=HC.o _ _ _ B.o;have v0:(z.alloc (K #[I J u.c,I J u.a,V u.d,Z T L gQ,I J u.e] 92)).cell? ⟨z.heap.size,0,U⟩=M (I J u.c):=World.cell?_alloc_mark z _ _ _ 0;have v1:(z.alloc (K #[I J u.c,I J u.a,V u.d,Z T L gQ,I J u.e] 92)).cell? ⟨z.heap.size,1,U⟩=M (I J u.a):=World.cell?_alloc_mark z _ _ _ 1;have v2:(z.alloc (K #[I J u.c,I J u.a,V u.d,Z T L gQ,I J u.e] 92)).cell? ⟨z.heap.size,2,U⟩=M (V u.d):=World.cell?_alloc_mark z _ _ _ 2;have v3:(z.alloc (K #[I J u.c,I J u.a,V u.d,Z T L gQ,I J u.e] 92)).cell? ⟨z.heap.size,3,U⟩=M (Z T L gQ):=World.cell?_alloc_mark z _ _ _ 3;have v4:(z.alloc (K #[I J u.c,I J u.a,V u.d,Z T L gQ,I J u.e] 92)).cell? ⟨z.heap.size,4,U⟩=M (I J u.e):=World.cell?_alloc_mark z _ _ _ 4;go_upto_region 8 with fail
     generalize (z.alloc (K #[I J u.c,I J u.a,V u.d,Z T L gQ,I J u.e] 92))=w7 at *;generalize z.heap.size=k6 at *;unfold qS at a;obtain⟨bh,hbh⟩:∃b,(m.toList==([72,69,65,68]:ab))=b:=⟨_,rfl⟩;have eH:m=uV<->bh=true:=by rw[<-hbh];exact oc m uV _ rfl
     cases bh with
     | true =>
       rw[if_pos (eH.2 rfl)] at a;have HDs:Hid (Calls prog 156 #[.agg #[I J u.c,I J u.a,V u.d,Z T L gQ,I J u.e]] w7 fun e w'=>∃(ao:ag) (cap k:Nat),e=Y (.agg #[I J 200,Z ao k cap,Z U 0 0])∧(jN u).2.length=k∧aL w' w7.heap.size 148 2 ao cap k (aJ (jN u).2)∧Below w7.heap.size w7 w'):=Ii u T L gQ HUn.o hs0 hs1 RL w7 (B.o.y Dr.o);have R3:Hid (jN u=(200,(jN u).2)):=by unfold Hid;rfl
       rw[R3.o] at a;clear eH R3;generalize (jN u).2=lh at *;go_wp2_with fail;refine HDs.o.mono ?_;rintro e y ⟨j,n,q,rfl,f,c,C⟩;obtain⟨⟨z0,z1,z2,y0,y1,y2⟩,d⟩:=B.o.f bG (i:=1) rfl (b:=w.heap.size+1) (by first | rfl | omega) (st:=200) (mI:=200) rfl f (co (dT _ _) B.o.c) c C;clear f c C;go_wp2;generalize (((y.setCell ⟨w.heap.size+1,0,U⟩ (I J 200)).setCell ⟨w.heap.size+1,1,U⟩ (Z j q n)).setCell ⟨w.heap.size+1,2,U⟩ (Z U 0 0))=wf at *;obtain⟨q0,q1,q2,q3⟩:=d.o;refine aS (v:=.agg #[I J 200,Z j q n,Z U 0 0]) (by simp[results,results97,go_sem,q0,q1,q2]) rfl ?_;rw[a.o];exact pa.a q3
     | false =>
     rw[if_neg (fun e=>by have:=eH.1 e;cases this)] at a;clear eH;obtain⟨bt,hbt⟩:∃b,(m.toList==([80,65,84,67,72]:ab))=b:=⟨_,rfl⟩;have eT:m=uZ<->bt=true:=by rw[<-hbt];exact oc m uZ _ rfl
     cases bt with
     | true =>
       rw[if_neg (fun e=>by have:=(eT.2 rfl).symm.trans e;revert this;decide),if_pos (eT.2 rfl)] at a;have HEx:=aa (B8 (g:=g) (m:=m) (t:=t) (mi:=mi) (ln:=ln) (bo:=bo) (fV:=fV) (nb:=nb) (B.o.kW Dr.o) B.o.b sw.o (HF.o.a wL.o) body HBl.o (yN.o.a wL.o) hnb u T L gQ HUn.o RL hs0);clear eT;generalize mw s u l body=r9 at *;obtain⟨sr,st,lr⟩:=r9;go_wp2_with fail;refine(HEx.o).mono ?_;rintro e y hE;cases hE with
       | @gave j n q _ f c G H =>
         have d:=aa (B.o.jL f c G H);unfold bS at d ⊢;clear f c G H;go_wp2;exact⟨rfl,by rw[a.o];exact d.o⟩
       | @ret j n q _ f c G H =>
         have IV:=B.o.j G H;replace c:=c.j (co (dT _ _) B.o.c);have C:=ar y.heap.size y;obtain⟨⟨z0,z1,z2,y0,y1,y2⟩,d⟩:=IV.f bG (i:=1) rfl (b:=w.heap.size+1) (by first | rfl | omega) (st:=st) (mI:=(st:Int)) rfl f (am _) c C;clear f c C G H IV;go_wp2;generalize (((y.setCell ⟨w.heap.size+1,0,U⟩ (I J (st:Int))).setCell ⟨w.heap.size+1,1,U⟩ (Z j q n)).setCell ⟨w.heap.size+1,2,U⟩ (Z U 0 0))=wf at *;obtain⟨q0,q1,q2,q3⟩:=d.o;refine aS (v:=.agg #[I J (st:Int),Z j q n,Z U 0 0]) (by simp[results,results97,go_sem,q0,q1,q2]) rfl ?_;rw[a.o];exact pa.a q3
     | false =>
     obtain⟨bd,hbd⟩:∃b,(m.toList==([68,69,76,69,84,69]:ab))=b:=⟨_,rfl⟩;have eD:m=uX<->bd=true:=by rw[<-hbd];exact oc m uX _ rfl
     cases bd with
     | true =>
       rw[if_pos (eD.2 rfl)] at a;have HRe:=aa (B7 (g:=g) (m:=m) (t:=t) (mi:=mi) (ln:=ln) (fo:=fo) (fZ:=fZ) (nf:=nf) (bo:=bo) (fV:=fV) (nb:=nb) B.o.b sw.o u T L gQ);clear eT eD;generalize (eG (gc s u.c).1,bR 204 [])=r9 at *;obtain⟨sr,st,lr⟩:=r9;go_wp2_with fail;refine(HRe.o).mono ?_;rintro e y hE;cases hE with
       | @gave j n q _ f c G H =>
         have d:=aa (B.o.jL f c G H);unfold bS at d ⊢;clear f c G H;go_wp2;exact⟨rfl,by rw[a.o];exact d.o⟩
       | @ret j n q _ f c G H =>
         have IV:=B.o.j G H;replace c:=c.j (co (dT _ _) B.o.c);have C:=ar y.heap.size y;obtain⟨⟨z0,z1,z2,y0,y1,y2⟩,d⟩:=IV.f bG (i:=1) rfl (b:=w.heap.size+1) (by first | rfl | omega) (st:=st) (mI:=(st:Int)) rfl f (am _) c C;clear f c C G H IV;go_wp2;generalize (((y.setCell ⟨w.heap.size+1,0,U⟩ (I J (st:Int))).setCell ⟨w.heap.size+1,1,U⟩ (Z j q n)).setCell ⟨w.heap.size+1,2,U⟩ (Z U 0 0))=wf at *;obtain⟨q0,q1,q2,q3⟩:=d.o;refine aS (v:=.agg #[I J (st:Int),Z j q n,Z U 0 0]) (by simp[results,results97,go_sem,q0,q1,q2]) rfl ?_;rw[a.o];exact pa.a q3
     | false =>
     rw[if_neg (fun e=>by have:=eD.1 e;cases this),if_neg (fun e=>by have:=eT.1 e;cases this)] at a;have MP:=aa (oq 405 405 rfl [] U 0 0 w7 (bx.j w7) rfl (by decide));clear eT eD;go_wp2_with fail;refine MP.o.mono ?_;rintro e y ⟨j,n,q,rfl,f,c,C⟩;obtain⟨⟨z0,z1,z2,y0,y1,y2⟩,d⟩:=B.o.f bG (i:=1) rfl (b:=w.heap.size+1) (by first | rfl | omega) (st:=405) (mI:=405) rfl f (co (dT _ _) B.o.c) c C;clear f c C;go_wp2;generalize (((y.setCell ⟨w.heap.size+1,0,U⟩ (I J 405)).setCell ⟨w.heap.size+1,1,U⟩ (Z j q n)).setCell ⟨w.heap.size+1,2,U⟩ (Z U 0 0))=wf at *;obtain⟨q0,q1,q2,q3⟩:=d.o;refine aS (v:=.agg #[I J 405,Z j q n,Z U 0 0]) (by simp[results,results97,go_sem,q0,q1,q2]) rfl ?_;rw[a.o];exact pa.a q3
end
theorem Ir (b:Nat)(st:Int)(ao:ag)(n cap:Nat)(a:List PanicEntry)(w:X)(d:w.cell? ⟨b,0,U⟩=M (I J 0)∧w.cell? ⟨b,1,U⟩=M (Z U 0 0)∧w.cell? ⟨b,2,U⟩=M (Z U 0 0)∧w.frozen? ⟨b,0,U⟩=F∧w.frozen? ⟨b,1,U⟩=F∧w.frozen? ⟨b,2,U⟩=F):
 CallsD prog 149 #[Q (M ⟨b,0,U⟩)] (.panicking ({ v:=.iface 233 (.agg #[I J st,Z ao n cap,Z U 0 0]),recovered:=F }::a)) w fun e f w' =>
  e=Y (.tuple #[])∧f=.panicking ({ v:=.iface 233 (.agg #[I J st,Z ao n cap,Z U 0 0]),recovered:=true }::a)∧w'=(((w.setCell ⟨b,0,U⟩ (I J st)).setCell ⟨b,1,U⟩ (Z ao n cap)).setCell ⟨b,2,U⟩ (Z U 0 0)):=by
 obtain⟨k,l,m,o,p,q⟩:=d;refine callsD_of_wpS func149 rfl fun c r g=>?_;apply wpS_seq;apply wpS_region;simp[wpOpsS,go_sem,recoverD,g,ntmps149,Exit.thenS];change Code.wpS _ _ _ { tmps:=#[Q (M ⟨b,0,U⟩),.iface 233 (.agg #[I J st,Z ao n cap,Z U 0 0]),.iface 233 (.agg #[I J st,Z ao n cap,Z U 0 0]),undef,undef,undef,undef,undef],defers:=[] } _ _;refine wpS_of_wp ?_;have i:∀w:X,(Instr.typeAssert (.iface 233 (.agg #[I J st,Z ao n cap,Z U 0 0])) 20 233 F).run prog w=.ok (.agg #[I J st,Z ao n cap,Z U 0 0]) w:=fun _=>by kernel_rfl
 have j:∀w:X,(Instr.field 233 (.agg #[I J st,Z ao n cap,Z U 0 0]) 0).run prog w=.ok (.agg #[I J st,Z ao n cap,Z U 0 0]) w:=fun _=>by kernel_rfl
 go_wp2;simp[bodyPostS,results,results149]
theorem MJ (b:Nat)(w:X):
 CallsD prog 149 #[Q (M ⟨b,0,U⟩)] .returning w fun e c w'=>e=Y (.tuple #[])∧c=.returning∧w'=w:=by
 refine callsD_of_wpS func149 rfl fun a f d=>?_;apply wpS_seq;apply wpS_region;simp[wpOpsS,go_sem,recoverD,d,ntmps149,Exit.thenS];change Code.wpS _ _ _ { tmps:=#[Q (M ⟨b,0,U⟩),.nilIface,.nilIface,undef,undef,undef,undef,undef],defers:=[] } _ _;refine wpS_of_wp ?_;go_wp2;cases a;simp_all [bodyPostS,results,results149]
section
variable {g:Nat} {m t:ae} {mi ln:Int} {l:aC} {fo:ag} {fZ nf:Nat} {bo:ag} {fV nb:Nat} {w w0:X} {S:Nat->Prop} {s:av}
theorem TE (h:aT w S g s):bW aT S w g [K #[I J 0,Z U 0 0,Z U 0 0] 126 (0,0)] s (fun k=>S k∧k<w.heap.size) (w.alloc (K #[I J 0,Z U 0 0,Z U 0 0] 126)):=(bW.G bG h).q bG rfl (fun _ e=>e.2) _
theorem MM (p:jU w0 w S)(h:aT w S g s)(ok:aK s)(hF:fX w l fo fZ nf)(body:ab)(hb:body.length=nb)(hB:az w bo fV body)(x:nb<=100000)(ht:t.size<=100000):
 Calls prog 96 #[.func (.func 97) #[.agg #[Q (M ⟨g,0,U⟩),V m,V t,I J mi,Z fo nf fZ,I J ln,Z bo nb fV]] #[]] w fun e w'=>vY aT S w g (br s m t l body) e w':=by
 have Ro:∀(fn:Fn) (first k:Array Value) (w:X),(Instr.makeFunc fn first k).run prog w=.ok (.func fn first k) w:=fun _ _ _ _=>rfl;have j:=TE h;have n:=(ar _ w).alloc (am _) (K #[I J 0,Z U 0 0,Z U 0 0] 126);have q:=Op (m:=m) (t:=t) (mi:=mi) (ln:=ln) (bo:=bo) (fV:=fV) (nb:=nb) (j.kW p) j.b ok (hF.a n) body hb (hB.a n) x ht;obtain⟨a,hR⟩:∃a,a=br s m t l body:=⟨_,rfl⟩;rw[<-hR] at q ⊢;obtain⟨sr,st,lr⟩:=a;go_enter_defers func96,ntmps96
 go_wp2_with fail;refine q.mono ?_;rintro e c hE;cases hE with
 | @gave r u v _ y d z B =>
   have C:=j.j z B;replace d:=d.j (co (dT _ _) j.c);obtain⟨hz,D⟩:=C.f bG (i:=0) rfl (b:=w.heap.size) (by first | rfl | omega) (st:=st) (mI:=(st:Int)) rfl y (am _) d (ar c.heap.size c);unfold bS;go_wp2;refine leaves_cons (f:=149) (args:=#[Q (M ⟨w.heap.size,0,U⟩)]) (by simp) (by simp[go_sem]) ?_;refine(Ir w.heap.size st r v u [] c hz).mono ?_;rintro e u' G ⟨rfl,rfl,H⟩;rw[H];generalize (((c.setCell ⟨w.heap.size,0,U⟩ (I J (st:Int))).setCell ⟨w.heap.size,1,U⟩ (Z r v u)).setCell ⟨w.heap.size,2,U⟩ (Z U 0 0))=wf at *;obtain⟨L,N,T,W⟩:=D.o;simp[Leaves,settle,results,results96,go_sem,L,N,T];exact W
 | @ret r u v _ y d z B =>
   have C:=j.j z B;replace d:=d.j (co (dT _ _) j.c);obtain⟨⟨z0,z1,z2,y0,y1,y2⟩,D⟩:=C.f bG (i:=0) rfl (b:=w.heap.size) (by first | rfl | omega) (st:=st) (mI:=(st:Int)) rfl y (am _) d (ar c.heap.size c);go_wp2;refine leaves_cons (f:=149) (args:=#[Q (M ⟨w.heap.size,0,U⟩)]) (by simp) (by simp[go_sem]) ?_;refine(MJ w.heap.size _).mono ?_;rintro e u' G ⟨rfl,rfl,H⟩;rw[H];generalize (((c.setCell ⟨w.heap.size,0,U⟩ (I J (st:Int))).setCell ⟨w.heap.size,1,U⟩ (Z r v u)).setCell ⟨w.heap.size,2,U⟩ (Z U 0 0))=wf at *;obtain⟨L,N,T,W⟩:=D.o;simp[Leaves,settle,results,results96,go_sem,L,N,T];exact W
theorem FH (p:jU w0 w S)(h:aT w S g s)(ok:aK s)(D:fX w l fo fZ nf)(body:ab)(G:body.length=nb)(H:az w bo fV body)(r:nb<=100000)(L:t.size<=100000):
 Calls prog 53 #[Q (M ⟨g,0,U⟩),.agg #[V m,V t,I J mi,Z fo nf fZ,I J ln],Z bo nb fV] w fun e w'=>vY aT S w g (br s m t l body) e w':=by
 have Ro:∀(y:Fn) (first d:Array Value) (w:X),(Instr.makeFunc y first d).run prog w=.ok (.func y first d) w:=fun _ _ _ _=>rfl;have a:(w.alloc (K #[V m,V t,I J mi,Z fo nf fZ,I J ln] 82)).heap.size=w.heap.size+1:=bu ..;have f:((w.alloc (K #[V m,V t,I J mi,Z fo nf fZ,I J ln] 82)).alloc (K #[I J 0,Z U 0 0,Z U 0 0] 126)).heap.size=w.heap.size+2:=by rw[bu,a]
 have q:bW aT S w g [K #[V m,V t,I J mi,Z fo nf fZ,I J ln] 82 (0,0),K #[I J 0,Z U 0 0,Z U 0 0] 126 (0,0),K #[Q (M ⟨g,0,U⟩),V m,V t,I J mi,Z fo nf fZ,I J ln,Z bo nb fV] 185 (0,0)] s (fun k=>S k∧k<w.heap.size) (((w.alloc (K #[V m,V t,I J mi,Z fo nf fZ,I J ln] 82)).alloc (K #[I J 0,Z U 0 0,Z U 0 0] 126)).alloc (K #[Q (M ⟨g,0,U⟩),V m,V t,I J mi,Z fo nf fZ,I J ln,Z bo nb fV] 185)) :=
  (((bW.G bG h).q bG rfl (fun k e=>e.2) _).q bG a (fun k e=>by rw[a];have:=e.2;omega) _).q bG f (fun k e=>by rw[f];have:=e.2;omega) _
 have j:Below w.heap.size w (((w.alloc (K #[V m,V t,I J mi,Z fo nf fZ,I J ln] 82)).alloc (K #[I J 0,Z U 0 0,Z U 0 0] 126)).alloc (K #[Q (M ⟨g,0,U⟩),V m,V t,I J mi,Z fo nf fZ,I J ln,Z bo nb fV] 185)):=au (au ((ar _ w).alloc (am _) _) ((ar _ _).alloc (am _) _)) ((ar _ _).alloc (am _) _);have n:=MM (m:=m) (t:=t) (mi:=mi) (ln:=ln) (bo:=bo) (fV:=fV) (nb:=nb) (q.kW p) q.b ok (D.a j) body G (H.a j) r L;obtain⟨c,N⟩:∃c,c=br s m t l body:=⟨_,rfl⟩;rw[<-N] at n ⊢;obtain⟨sr,st,lr⟩:=c;go_enter func53,ntmps53;go_wp2_with fail;refine n.mono ?_;rintro e u ⟨⟨z,B,C,rfl,T,x⟩,W,qO⟩;have IV:=q.j W qO;replace x:=x.j (co (dT _ _) q.c);obtain⟨⟨z0,z1,z2,y0,y1,y2⟩,HE⟩:=IV.f bG (i:=1) rfl (b:=w.heap.size+1) (by first | rfl | omega) (st:=st) (mI:=(st:Int)) rfl T (am _) x (ar u.heap.size u);go_wp2;generalize (((u.setCell ⟨w.heap.size+1,0,U⟩ (I J (st:Int))).setCell ⟨w.heap.size+1,1,U⟩ (Z z C B)).setCell ⟨w.heap.size+1,2,U⟩ (Z U 0 0))=wf at *;obtain⟨q0,q1,q2,q3⟩:=HE.o;refine aS (v:=.agg #[I J (st:Int),Z z C B,Z U 0 0]) (by simp[results,results53,go_sem,q0,q1,q2]) rfl ?_;exact q3
end
theorem Ra (n:Int)(d:-1<=n)(f:n<1000000000)(W:X)(a:di W):Calls prog 141 #[I J n] W fun e w'=>e=Y (V ⟨(fE n).toArray⟩)∧Below W.heap.size W w':=by
 unfold fE jf;by_cases h:n<0
 . obtain rfl:n=-1:=by omega
   have h:=Any.strconv_Itoa Tryz.lays171 (-((1:Nat):Int)) (by omega) (by omega) W a;rw[Lib.itoa_neg 1 (by decide),BL 8 1 (by decide)] at h;refine h.mono ?_;rintro e w' ⟨b,k,c,rfl⟩;exact⟨b,Lib.below_grow _ W (am _) k c⟩
 . rw[if_neg h];have:=mD n.toNat (by omega) W a;rw[show((n.toNat:Nat):Int)=n from by omega] at this;exact this
