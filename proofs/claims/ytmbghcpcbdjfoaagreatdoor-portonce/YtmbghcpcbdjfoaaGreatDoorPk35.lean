import Derived.Lib.AppendIntMem
import Derived.Test.YtmbghcpcbdjfoaaGreatDoorPk32
open Go.Value renaming int->I,string->V,slice->Z,pointer->Q
open Go.IntKind renaming i64->J
open Go.Obj renaming cells->K
open Go.Ending renaming returned->Y
open Option renaming none->U,some->M
open Bool renaming false->F
open Or renaming inl->A,inr->R
open Go renaming World->X
set_option maxHeartbeats 8000000
set_option maxRecDepth 100000
open Go.Proofs.Tryz
namespace Go.Proofs.YtmbghcpcbdjfoaaGreatDoor
open Go.RowKit
def fu (w:X):Prop:=Lib.TabIs prog w "internal/strconv.uint64pow10" .u64 Lib.pow10Tab
theorem fu.a {w w':X}(h:fu w)(c:Below w.heap.size w w'):fu w':=by
 unfold fu Lib.TabIs World.var? at h ⊢;cases a:prog.globalNamed "internal/strconv.uint64pow10" with
 | none=>rw[a] at h;cases h
 | some g =>
   rw[a] at h;simp only[Option.bind_some] at h ⊢;cases b:w.heap[g]? with
   | none=>rw[b] at h;cases h
   | some o=>rw[c.block g (bH.1 b).1];exact h
theorem Dr:∀(f n:Nat),n<10 ^ (f+1)->Lib.decDigits n=ba f n
 | 0, n, h => by
   rw[Lib.decDigits,dif_pos (by simpa using h)];rfl
 | f + 1, n, h => by
   rw[Lib.decDigits,ba];by_cases a:n<10
   . rw[dif_pos a,if_pos a]
   . rw[dif_neg a,if_neg a,Dr f (n / 10) (by rw[Nat.pow_succ] at h;omega)]
theorem qE (n:Nat)(a:n<1000000000)(W:X)(b:fu W):Calls prog 149 #[I J (n:Int)] W fun e w'=>e=Y (V ⟨(ba 8 n).toArray⟩)∧Below W.heap.size W w':=by
 have h:=Any.strconv_Itoa Tryz.lays171 (n:Int) (by omega) (by omega) W b;rw[Lib.itoa_nonneg,Dr 8 n (by simpa using a)] at h;refine h.mono ?_;rintro e w' ⟨c,k,d,rfl⟩;exact⟨c,Lib.below_grow _ W (ak _) k d⟩
theorem EY (a v:ag)(x:Int)(w:X)(l:∀W,Below w.heap.size w W->Calls prog 149 #[I J x] W fun e w'=>e=Y (V v)∧Below W.heap.size W w'):
 Calls prog 165 #[V a,I J x] w fun e w'=>e=Y (.agg #[V a,V v])∧Below w.heap.size w w':=by
 have i:=(aq _ w).alloc (ak _) (K #[V ⟨#[]⟩,V ⟨#[]⟩] 128);go_enter func165,ntmps165;go_wp2_with fail;refine(l _ i).mono ?_;rintro e m ⟨rfl,f⟩;go_wp2_with fail;refine(nR a v m).mono ?_;rintro e b ⟨rfl,g⟩;have c:=ar f g;have d:=(c.block w.heap.size (by simp)).trans (bw w _);have r:=am b _ 0 _ _ _ d;have s:=am b _ 1 _ _ _ d;have t:=aD b _ 0 _ _ d;have u:=aD b _ 1 _ _ d;have n:=((ar i c).setCell (p:=⟨w.heap.size,0,U⟩) (ak _) (V a)).setCell (p:=⟨w.heap.size,1,U⟩) (ak _) (V v);have j:=aQ _ _ 1 _ _ (V v) (aQ _ _ 0 _ _ (V a) d);go_wp2;generalize ((b.setCell ⟨w.heap.size,0,U⟩ (V a)).setCell ⟨w.heap.size,1,U⟩ (V v))=k at *;have o:=am k _ 0 _ _ _ j;have q:=am k _ 1 _ _ _ j;exact aR (v:=.agg #[V a,V v]) (by simp[results,results165,go_sem,o,q]) rfl ⟨rfl,n⟩
theorem ud (a:ag)(n:Nat)(x:Int)(b:(n:Int)=x)(c:n<1000000000)(w:X)(d:fu w):Calls prog 165 #[V a,I J x] w fun e w'=>e=Y (.agg #[V a,V (fb n)])∧Below w.heap.size w w':=by
 subst b;exact EY a (fb n) n w (fun W f=>qE n c W (d.a f))
theorem Dc (c:Nat)(w:X):
 Calls prog 220 #[I J (c:Int)] w fun e w'=>e=Y (I J (qi c:Nat))∧w'=w:=by
 by_cases a:c=10
 . subst a;go_enter func220,ntmps220;go_wp2;go_ret;exact⟨rfl,rfl⟩
 by_cases b:c=17
 . subst b;go_enter func220,ntmps220;go_wp2;go_ret;exact⟨rfl,rfl⟩
 by_cases d:c=19
 . subst d;go_enter func220,ntmps220;go_wp2;go_ret;exact⟨rfl,rfl⟩
 by_cases g:c=4
 . subst g;go_enter func220,ntmps220;go_wp2;go_ret;exact⟨rfl,rfl⟩
 by_cases i:c=8
 . subst i;go_enter func220,ntmps220;go_wp2;go_ret;exact⟨rfl,rfl⟩
 by_cases f:c=16
 . subst f;go_enter func220,ntmps220;go_wp2;go_ret;exact⟨rfl,rfl⟩
 have j:Hid (qi c=400):=by
  unfold Hid qi;rw[if_neg a,if_neg (by omega),if_neg g,if_neg (by omega)]
 have k:((c:Int)==10)=F:=by rw[aO];omega
 have l:((c:Int)==17)=F:=by rw[aO];omega
 have m:((c:Int)==19)=F:=by rw[aO];omega
 have p:((c:Int)==4)=F:=by rw[aO];omega
 have q:((c:Int)==8)=F:=by rw[aO];omega
 have n:((c:Int)==16)=F:=by rw[aO];omega
 go_enter func220,ntmps220;go_wp2;go_ret;exact⟨by rw[j.o];rfl,rfl⟩
theorem yO (w:X):Calls prog 169 #[I J 0] w fun e w'=>e=Y (.tuple #[])∧w'=w:=by
 have b:=aa (Dc 0 w);go_enter func169,ntmps169;go_wp2_with fail;refine b.o.mono ?_;rintro e c ⟨rfl,a⟩;rw[a];clear a;go_wp2_with fail;refine(gv _ U 0 0 w).mono ?_;rintro e d ⟨rfl,a⟩;rw[a];clear a;go_wp2;go_end0
 exact⟨rfl,rfl⟩
theorem zc (c:Nat)(i:c≠0)(w:X):Calls prog 169 #[I J (c:Int)] w fun e w'=>hQ w (bY (qi c) []) e w':=by
 have j:((c:Int)==0)=F:=by rw[aO];omega
 go_enter func169,ntmps169;go_wp2_with fail;refine(Dc c w).mono ?_;rintro e k ⟨rfl,d⟩;rw[d];go_wp2_with fail;refine(iI (qi c) (qi c:Nat) rfl w).mono ?_;rintro e l a;have f:=aa a;obtain⟨m,g,n,b,_,_,_⟩:=a;unfold bZ at b;subst b;go_wp2;exact⟨rfl,f.o⟩
structure gz (w:X)(l:aC)(fo:ai)(gG nf:Nat):Prop where
 e:bx w fo gG nf (aI l)
 f:l.length=nf
 c:nf<=1000
 b:∀p∈l,p.1.size<=2000∧p.2.size<=2000
theorem gz.a {w w':X}{l:aC}{fo:ai}{gG nf:Nat}(h:gz w l fo gG nf)(a:Below w.heap.size w w'):gz w' l fo gG nf:=⟨h.e.a a,h.f,h.c,h.b⟩
section
variable {g:Nat} {m t:ag} {mi ln:Int} {l:aC} {fo:ai} {gG nf:Nat} {bo:ai} {gF nb:Nat} {w:X}
theorem rO (a:ag)(n:a.size<=2000)(h:gz w l fo gG nf){v:ae}{c:Nat}(p:bj (aT a l)=(v,c))(x:c≠9):
 Calls prog 117 #[.agg #[Q (M ⟨g,0,U⟩),V m,V t,I J mi,Z fo nf gG,I J ln,Z bo nb gF],V a] w fun e w'=>e=Y (.tuple #[V ⟨v.toArray⟩,.bool (decide (c=0))])∧Below w.heap.size w w':=by
 have j:=(aq _ w).alloc (ak _) (K #[Q (M ⟨g,0,U⟩),V m,V t,I J mi,Z fo nf gG,I J ln,Z bo nb gF] 145);have d:=wR l a fo gG nf _ (h.a j).e h.f (by have:=h.c;omega) h.b n;rw[Ih,If,p] at d;unfold jX at d;have y:((c:Int) != 9)=true:=by rw[cW];omega
 have z:(w.alloc (K #[Q (M ⟨g,0,U⟩),V m,V t,I J mi,Z fo nf gG,I J ln,Z bo nb gF] 145)).cell? ⟨w.heap.size,4,U⟩=M (Z fo nf gG):=World.cell?_alloc_mark w _ _ _ 4;generalize (⟨v.toArray⟩:ag)=B at *;have q:Hid (∃b:Bool,((c:Int)==0)=b∧decide (c=0)=b):=by
  by_cases k:c=0
  . subst k;exact⟨true,rfl,rfl⟩
  . exact⟨F,by rw[aO];omega,aW k⟩
 obtain⟨b,C,r⟩:=q.o;rw[r];go_enter func117,ntmps117;go_wp2_with fail;refine d.mono ?_;rintro e s ⟨rfl,f⟩;have i:=ar j f;go_wp2_with fail;refine(gv 400 U 0 0 s).mono ?_;rintro e D ⟨rfl,u⟩;rw[u];go_wp2;go_ret2;exact⟨rfl,i⟩
theorem CA (a:ag)(b:a.size<=2000)(h:gz w l fo gG nf){v:ae}(c:bj (aT a l)=(v,0)):
 Calls prog 117 #[.agg #[Q (M ⟨g,0,U⟩),V m,V t,I J mi,Z fo nf gG,I J ln,Z bo nb gF],V a] w fun e w'=>e=Y (.tuple #[V ⟨v.toArray⟩,.bool true])∧Below w.heap.size w w':=rO a b h c (by decide)
theorem EZ (a:ag)(b:a.size<=2000)(h:gz w l fo gG nf){v:ae}(c:bj (aT a l)=(v,10)):
 Calls prog 117 #[.agg #[Q (M ⟨g,0,U⟩),V m,V t,I J mi,Z fo nf gG,I J ln,Z bo nb gF],V a] w fun e w'=>e=Y (.tuple #[V ⟨v.toArray⟩,.bool F])∧Below w.heap.size w w':=rO a b h c (by decide)
theorem rQ (a:ag)(k:a.size<=2000)(h:gz w l fo gG nf){v:ae}(o:bj (aT a l)=(v,9)):
 Calls prog 117 #[.agg #[Q (M ⟨g,0,U⟩),V m,V t,I J mi,Z fo nf gG,I J ln,Z bo nb gF],V a] w fun e w'=>hQ w (bY 400 []) e w':=by
 have f:=(aq _ w).alloc (ak _) (K #[Q (M ⟨g,0,U⟩),V m,V t,I J mi,Z fo nf gG,I J ln,Z bo nb gF] 145);have b:=wR l a fo gG nf _ (h.a f).e h.f (by have:=h.c;omega) h.b k;rw[Ih,If,o] at b;unfold jX at b;have s:(w.alloc (K #[Q (M ⟨g,0,U⟩),V m,V t,I J mi,Z fo nf gG,I J ln,Z bo nb gF] 145)).cell? ⟨w.heap.size,4,U⟩=M (Z fo nf gG):=World.cell?_alloc_mark w _ _ _ 4;generalize (⟨v.toArray⟩:ag)=u at *;go_enter func117,ntmps117;go_wp2_with fail;refine b.mono ?_;rintro e p ⟨rfl,c⟩;have d:=ar f c;go_wp2_with fail;refine(iI 400 400 rfl p).mono ?_;rintro e x i;have q:=i.d d;obtain⟨y,r,n,j,_,_,_⟩:=i;unfold bZ at j;subst j;go_wp2;exact⟨rfl,q⟩
end
theorem Ic (a:List ag):(bj a).2=0∨(bj a).2=9∨(bj a).2=10:=by
 unfold bj;split
 . exact R (R rfl)
 . exact A rfl
 . exact R (A rfl)
theorem tj {a b:ag}(h:aU a.data.toList=aU b.data.toList)(l:aC):aT a l=aT b l:=by unfold aT;rw[h]
theorem ty (l:aC):aT fQ l=aT ph l:=tj (by decide +kernel) l
theorem wi (l:aC):aT gO l=aT gD l:=tj (by decide +kernel) l
theorem QO (l:aC):aT gP l=aT nI l:=tj (by decide +kernel) l
theorem Ie (l:aC):aT gR l=aT rA l:=tj (by decide +kernel) l
theorem QP (l:aC):aT dq l=aT yn l:=tj (by decide +kernel) l
def ti:ag:=⟨#[67,111,110,116,101,110,116,45,84,121,112,101]⟩
theorem B2 (l:aC):aT ti l=aT jR l:=tj (by decide +kernel) l
section
variable {g:Nat} {m t:ag} {mi ln:Int} {l:aC} {fo:ai} {gG nf:Nat} {bo:ai} {gF nb:Nat} {w:X}
theorem gz.d (h:gz w l fo gG nf)(a:ag):(bj (aT a l)).1.length<=2000:=QM l a 2000 (fun p b=>(h.b p b).2)
theorem rV {w W:X}(a:Below (w.alloc (K #[Q (M ⟨g,0,U⟩),V m,V t,I J mi,Z fo nf gG,I J ln,Z bo nb gF] 145)).heap.size (w.alloc (K #[Q (M ⟨g,0,U⟩),V m,V t,I J mi,Z fo nf gG,I J ln,Z bo nb gF] 145)) W):W.cell? ⟨w.heap.size,0,U⟩=M (Q (M ⟨g,0,U⟩))∧W.cell? ⟨w.heap.size,1,U⟩=M (V m)∧W.cell? ⟨w.heap.size,2,U⟩=M (V t)∧W.cell? ⟨w.heap.size,3,U⟩=M (I J mi)∧W.cell? ⟨w.heap.size,4,U⟩=M (Z fo nf gG)∧W.cell? ⟨w.heap.size,5,U⟩=M (I J ln)∧W.cell? ⟨w.heap.size,6,U⟩=M (Z bo nb gF):=by
 have r:=(a.block w.heap.size (by simp)).trans (bw w _);exact⟨am W _ 0 _ _ _ r,am W _ 1 _ _ _ r,am W _ 2 _ _ _ r,am W _ 3 _ _ _ r,am W _ 4 _ _ _ r,am W _ 5 _ _ _ r,am W _ 6 _ _ _ r⟩
theorem CK (a:ag)(j:a.size<=2000)(h:gz w l fo gG nf)(f:(bj (aT a l)).2=10):
 Calls prog 173 #[.agg #[Q (M ⟨g,0,U⟩),V m,V t,I J mi,Z fo nf gG,I J ln,Z bo nb gF],V a] w fun e w'=>e=Y (.tuple #[I J 0,.bool F])∧Below w.heap.size w w':=by
 have i:=(aq _ w).alloc (ak _) (K #[Q (M ⟨g,0,U⟩),V m,V t,I J mi,Z fo nf gG,I J ln,Z bo nb gF] 145);generalize k:bj (aT a l)=r at *;obtain⟨v,c⟩:=r;simp only at f;subst f;have n:=rV (g:=g) (m:=m) (t:=t) (mi:=mi) (ln:=ln) (fo:=fo) (gG:=gG) (nf:=nf) (bo:=bo) (gF:=gF) (nb:=nb) (w:=w) (aq _ _);generalize (⟨v.toArray⟩:ag)=o at *;go_enter func173,ntmps173;go_wp2_with fail;refine(EZ a j (h.a i) k).mono ?_;rintro e p ⟨rfl,b⟩;have d:=ar i b;go_wp2;go_ret2;exact⟨rfl,d⟩
theorem Dd (a:ag)(s:a.size<=2000)(h:gz w l fo gG nf)(o:(bj (aT a l)).2≠10){x:Int}(i:dl (bj (aT a l))=(x,true)):
 Calls prog 173 #[.agg #[Q (M ⟨g,0,U⟩),V m,V t,I J mi,Z fo nf gG,I J ln,Z bo nb gF],V a] w fun e w'=>e=Y (.tuple #[I J x,.bool true])∧Below w.heap.size w w':=by
 have p:=(aq _ w).alloc (ak _) (K #[Q (M ⟨g,0,U⟩),V m,V t,I J mi,Z fo nf gG,I J ln,Z bo nb gF] 145);have u:=h.d a;generalize y:bj (aT a l)=r at *;obtain⟨v,c⟩:=r;simp only at o u;unfold dl at i;rw[if_neg o] at i;injection i with d b;rw[gr,bS] at b;obtain⟨b,f⟩:=b;simp only at d b f;subst f;have z:=CA (g:=g) (m:=m) (t:=t) (mi:=mi) (ln:=ln) (bo:=bo) (gF:=gF) (nb:=nb) a s (h.a p) y;have B:∀W,Calls prog 171 #[V ⟨v.toArray⟩] W fun e w'=>e=Y (.tuple #[I J x,.bool true])∧w'=W:=fun W=>by
  have:=wJ ⟨v.toArray⟩ W (by show v.toArray.size<=_;rw[cN];unfold maxLen;omega);rw[show(⟨v.toArray⟩:ag).data.toList=v from by simp,d,b] at this;exact this
 have D:=rV (g:=g) (m:=m) (t:=t) (mi:=mi) (ln:=ln) (fo:=fo) (gG:=gG) (nf:=nf) (bo:=bo) (gF:=gF) (nb:=nb) (w:=w) (aq _ _);generalize (⟨v.toArray⟩:ag)=G at *;go_enter func173,ntmps173;go_wp2_with fail;refine z.mono ?_;rintro e q ⟨rfl,j⟩;have k:=ar p j;go_wp2_with fail;refine(B q).mono ?_;rintro e C ⟨rfl,n⟩;rw[n];go_wp2_with fail;refine(gv 400 U 0 0 q).mono ?_;rintro e C ⟨rfl,n⟩;rw[n];go_wp2;go_ret2;exact⟨rfl,k⟩
theorem Ds (a:ag)(x:a.size<=2000)(h:gz w l fo gG nf)(b:(dl (bj (aT a l))).2=F):
 Calls prog 173 #[.agg #[Q (M ⟨g,0,U⟩),V m,V t,I J mi,Z fo nf gG,I J ln,Z bo nb gF],V a] w fun e w'=>hQ w (bY 400 []) e w':=by
 have i:=(aq _ w).alloc (ak _) (K #[Q (M ⟨g,0,U⟩),V m,V t,I J mi,Z fo nf gG,I J ln,Z bo nb gF] 145);have D:=h.d a;have j:=Ic (aT a l);generalize z:bj (aT a l)=r at *;obtain⟨v,c⟩:=r;have T:=rV (g:=g) (m:=m) (t:=t) (mi:=mi) (ln:=ln) (fo:=fo) (gG:=gG) (nf:=nf) (bo:=bo) (gF:=gF) (nb:=nb) (w:=w) (aq _ _);simp only at j D;unfold dl at b;by_cases k:c=9
 . subst k;go_enter func173,ntmps173;go_wp2_with fail;refine(rQ a x (h.a i) z).mono ?_;rintro e B d;have o:=d.d i;obtain⟨G,p,n,f,_,_,_⟩:=d;unfold bZ at f;subst f;go_wp2;exact⟨rfl,o⟩
 . have H:c≠10:=fun e=>by subst e;rw[if_pos rfl] at b;cases b
   obtain rfl:c=0:=by omega
   rw[if_neg (by simp)] at b;have q:(bB 10 9 v).2=F:=by
    cases e:(bB 10 9 v).2 with
    | false=>rfl
    | true=>simp[e] at b
   have L:=CA (g:=g) (m:=m) (t:=t) (mi:=mi) (ln:=ln) (bo:=bo) (gF:=gF) (nb:=nb) a x (h.a i) z;have N:∀W,Calls prog 171 #[V ⟨v.toArray⟩] W fun e w'=>e=Y (.tuple #[I J (bB 10 9 v).1,.bool F])∧w'=W:=fun W=>by
    have:=wJ ⟨v.toArray⟩ W (by show v.toArray.size<=_;rw[cN];unfold maxLen;omega);rw[show(⟨v.toArray⟩:ag).data.toList=v from by simp,q] at this;exact this
   generalize (bB 10 9 v).1=y at *;generalize (⟨v.toArray⟩:ag)=vb at *;go_enter func173,ntmps173;go_wp2_with fail;refine L.mono ?_;rintro e C ⟨rfl,s⟩;have u:=ar i s;go_wp2_with fail;refine(N C).mono ?_;rintro e B ⟨rfl,S⟩;rw[S];go_wp2_with fail;refine(iI 400 400 rfl C).mono ?_;rintro e B d;have o:=d.d u;obtain⟨G,p,n,f,_,_,_⟩:=d;unfold bZ at f;subst f;go_wp2;exact⟨rfl,o⟩
end
section
variable {g:Nat} {m t:ag} {mi ln:Int} {l:aC} {fo:ai} {gG nf:Nat} {bo:ai} {gF nb:Nat} {w:X}
theorem hQ.a {w a b:X}{r:jk}{e:Ending}(d:Below w.heap.size w a)(c:hQ a r e b):Hid (hQ w r e b)∧∃(ao:ai) (cap n:Nat),e=bZ (r.1:Int) ao n cap:=by
 refine⟨c.d d,?_⟩;obtain⟨ao,cap,n,f,_⟩:=c;exact⟨ao,cap,n,f⟩
theorem Ib {r:ae×Nat}(c:r.2≠10){x:Int}(a:dl r=(x,true)):0<=x:=by
 unfold dl at a;rw[if_neg c] at a;injection a with d b;rw[gr] at b;rw[<-d];exact(xg b.1).1
theorem Ia {r:ae×Nat}(a:r.2=10):dl r=(-1,true):=by unfold dl;rw[if_pos a]
def tA (l:aC):Prop:=(bj (aT nI l)).2=9∨((bj (aT nI l)).2=0∧(bj (aT nI l)).1≠lv.data.toList)∨(0<=(dl (bj (aT gD l))).1<->(bj (aT nI l)).2=0)
theorem RJ (h:gz w l fo gG nf)(c:(dl (bj (aT gD l))).2=F):
 Calls prog 167 #[.agg #[Q (M ⟨g,0,U⟩),V m,V t,I J mi,Z fo nf gG,I J ln,Z bo nb gF]] w fun e w'=>hQ w (bY 400 []) e w':=by
 have a:=(aq _ w).alloc (ak _) (K #[Q (M ⟨g,0,U⟩),V m,V t,I J mi,Z fo nf gG,I J ln,Z bo nb gF] 145);have j:=rV (g:=g) (m:=m) (t:=t) (mi:=mi) (ln:=ln) (fo:=fo) (gG:=gG) (nf:=nf) (bo:=bo) (gF:=gF) (nb:=nb) (w:=w) (aq _ _);go_enter func167,ntmps167;go_wp2_with fail;refine(Ds gO (by decide) (h.a a) (by rw[wi];exact c)).mono ?_;rintro e k d;obtain⟨f,p,i,n,b⟩:=d.a a;unfold bZ at b;subst b;go_wp2;exact⟨rfl,f.o⟩
theorem RK (h:gz w l fo gG nf)(hx:(dl (bj (aT gD l))).2=true):
 (tA l->Calls prog 167 #[.agg #[Q (M ⟨g,0,U⟩),V m,V t,I J mi,Z fo nf gG,I J ln,Z bo nb gF]] w fun e w'=>hQ w (bY 400 []) e w') ∧
 (¬tA l->Calls prog 167 #[.agg #[Q (M ⟨g,0,U⟩),V m,V t,I J mi,Z fo nf gG,I J ln,Z bo nb gF]] w fun e w'=>e=Y (I J (dl (bj (aT gD l))).1)∧Below w.heap.size w w'):=by
 have T:=(aq _ w).alloc (ak _) (K #[Q (M ⟨g,0,U⟩),V m,V t,I J mi,Z fo nf gG,I J ln,Z bo nb gF] 145);have HC:∀W,Below (w.alloc (K #[Q (M ⟨g,0,U⟩),V m,V t,I J mi,Z fo nf gG,I J ln,Z bo nb gF] 145)).heap.size (w.alloc (K #[Q (M ⟨g,0,U⟩),V m,V t,I J mi,Z fo nf gG,I J ln,Z bo nb gF] 145)) W->W.cell? ⟨w.heap.size,0,U⟩=M (Q (M ⟨g,0,U⟩))∧W.cell? ⟨w.heap.size,1,U⟩=M (V m)∧W.cell? ⟨w.heap.size,2,U⟩=M (V t)∧W.cell? ⟨w.heap.size,3,U⟩=M (I J mi)∧W.cell? ⟨w.heap.size,4,U⟩=M (Z fo nf gG)∧W.cell? ⟨w.heap.size,5,U⟩=M (I J ln)∧W.cell? ⟨w.heap.size,6,U⟩=M (Z bo nb gF):=fun W p=>rV p;obtain⟨x0,x1,x2,x3,x4,x5,x6⟩:=HC _ (aq _ _);have key:∃(y:Int) (f:Bool),Hid ((dl (bj (aT gD l))).1=(if f then y else -1)∧(f=true->0<=y))∧∀W,Below w.heap.size w W->Calls prog 173 #[.agg #[Q (M ⟨g,0,U⟩),V m,V t,I J mi,Z fo nf gG,I J ln,Z bo nb gF],V gO] W fun e w'=>e=Y (.tuple #[I J y,.bool f])∧Below W.heap.size W w':=by
  by_cases hc:(bj (aT gD l)).2=10
  . exact⟨0,F,⟨by rw[Ia hc];rfl,fun e=>by cases e⟩,fun W p=>CK gO (by decide) (h.a p) (by rw[wi];exact hc)⟩
  . generalize hy:dl (bj (aT gD l))=r at *;obtain⟨y,b⟩:=r;simp only at hx;subst hx;exact⟨y,true,⟨rfl,fun _=>Ib hc hy⟩,fun W p=>Dd gO (by decide) (h.a p) (by rw[wi];exact hc) (by rw[wi];exact hy)⟩
 obtain⟨y,f,D,VA⟩:=key;have XI:=VA _ T;unfold gO at XI;have hco:=Ic (aT nI l);unfold tA;generalize hv:bj (aT nI l)=r at *;obtain⟨v,c⟩:=r;have G:bj (aT gP l)=(v,c):=by rw[QO];exact hv
 simp only at hco;generalize (dl (bj (aT gD l))).1=z at *;rcases hco with rfl | rfl | rfl
 . have B:∀W,Below w.heap.size w W->Calls prog 117 #[.agg #[Q (M ⟨g,0,U⟩),V m,V t,I J mi,Z fo nf gG,I J ln,Z bo nb gF],V gP] W fun e w'=>e=Y (.tuple #[V ⟨v.toArray⟩,.bool true])∧Below W.heap.size W w':=fun W p=>CA gP (by decide) (h.a p) G;unfold gP at B;obtain⟨b1,hb1⟩:∃b,((⟨v.toArray⟩:ag).toList==([49]:ae))=b:=⟨_,rfl⟩;have e1:v=lv.data.toList<->b1=true:=by rw[<-hb1];exact ym v _
   generalize (⟨v.toArray⟩:ag)=vb at *;refine⟨fun q=>?_,fun s=>?_⟩
   . have Ea:=aa q;go_enter func167,ntmps167;go_wp2_with fail;refine XI.mono ?_;rintro e C ⟨rfl,a⟩;have d:=ar T a;obtain⟨x0,x1,x2,x3,x4,x5,x6⟩:=HC _ a;go_wp2_with fail;refine(B C d).mono ?_;rintro e k ⟨rfl,j⟩;have i:=ar d j;cases b1 with
     | false =>
       go_wp2_with fail;refine(iI 400 400 rfl k).mono ?_;rintro e w9 H;obtain⟨L,ao,N,n,u⟩:=H.a i;unfold bZ at u;subst u;go_wp2;exact⟨rfl,L.o⟩
     | true =>
       go_wp2_with fail;refine(gv 400 U 0 0 k).mono ?_;rintro e w3 ⟨rfl,x⟩;rw[x];cases f with
       | false =>
         exfalso;have S:=Ea.o;have h2:=D.o.1;simp only[wt,if_false] at h2;rcases S with S | S | S
         . cases S
         . exact S.2 (e1.2 (by first | exact rfl | trivial))
         . have:=S.2 (by first | exact rfl | trivial);omega
       | true =>
         go_wp2_with fail;refine(iI 400 400 rfl k).mono ?_;rintro e w9 H;obtain⟨L,ao,N,n,u⟩:=H.a i;unfold bZ at u;subst u;go_wp2;exact⟨rfl,L.o⟩
   . have vX:=aa s;have hb:b1=true:=by
      cases b1 with
      | true=>rfl
      | false=>exact absurd (R (A ⟨rfl,fun e=>by have:=e1.1 e;cases this⟩)) vX.o
     subst hb;have ht:f=F:=by
      cases f with
      | false=>rfl
      | true =>
        refine absurd (R (R ⟨fun _=>rfl,fun _=>?_⟩)) vX.o;have h2:=D.o.1;have h3:=D.o.2 rfl;rw[h2];exact h3
     subst ht;have hz:z=-1:=D.o.1;subst hz;go_enter func167,ntmps167;go_wp2_with fail;refine XI.mono ?_;rintro e C ⟨rfl,a⟩;have d:=ar T a;obtain⟨x0,x1,x2,x3,x4,x5,x6⟩:=HC _ a;go_wp2_with fail;refine(B C d).mono ?_;rintro e k ⟨rfl,j⟩;have i:=ar d j;go_wp2_with fail;refine(gv 400 U 0 0 k).mono ?_;rintro e w3 ⟨rfl,x⟩;rw[x];go_wp2_with fail;refine(gv 400 U 0 0 k).mono ?_;rintro e w3 ⟨rfl,x⟩;rw[x];go_wp2;go_ret;exact⟨rfl,i⟩
 . refine⟨fun _=>?_,fun s=>absurd (A rfl) s⟩;have B:∀W,Below w.heap.size w W->Calls prog 117 #[.agg #[Q (M ⟨g,0,U⟩),V m,V t,I J mi,Z fo nf gG,I J ln,Z bo nb gF],V gP] W fun e w'=>hQ W (bY 400 []) e w':=fun W p=>rQ gP (by decide) (h.a p) G;unfold gP at B;go_enter func167,ntmps167;go_wp2_with fail;refine XI.mono ?_;rintro e C ⟨rfl,a⟩;have d:=ar T a;obtain⟨x0,x1,x2,x3,x4,x5,x6⟩:=HC _ a;go_wp2_with fail;refine(B C d).mono ?_;rintro e w9 H;obtain⟨L,ao,N,n,u⟩:=H.a d;unfold bZ at u;subst u;go_wp2;exact⟨rfl,L.o⟩
 . have B:∀W,Below w.heap.size w W->Calls prog 117 #[.agg #[Q (M ⟨g,0,U⟩),V m,V t,I J mi,Z fo nf gG,I J ln,Z bo nb gF],V gP] W fun e w'=>e=Y (.tuple #[V ⟨v.toArray⟩,.bool F])∧Below W.heap.size W w':=fun W p=>EZ gP (by decide) (h.a p) G;unfold gP at B;generalize (⟨v.toArray⟩:ag)=vb at *;cases f with
   | false =>
     have hz:z=-1:=D.o.1;refine⟨fun _=>?_,fun s=>absurd (R (R ⟨fun e=>by omega,fun e=>by cases e⟩)) s⟩;go_enter func167,ntmps167;go_wp2_with fail;refine XI.mono ?_;rintro e C ⟨rfl,a⟩;have d:=ar T a;obtain⟨x0,x1,x2,x3,x4,x5,x6⟩:=HC _ a;go_wp2_with fail;refine(B C d).mono ?_;rintro e k ⟨rfl,j⟩;have i:=ar d j;go_wp2_with fail;refine(gv 400 U 0 0 k).mono ?_;rintro e w3 ⟨rfl,x⟩;rw[x];go_wp2_with fail;refine(iI 400 400 rfl k).mono ?_;rintro e w9 H;obtain⟨L,ao,N,n,u⟩:=H.a i;unfold bZ at u;subst u;go_wp2;exact⟨rfl,L.o⟩
   | true =>
     have hz:z=y:=D.o.1;subst hz;have hpos:=D.o.2 rfl;refine⟨fun q=>?_,fun _=>?_⟩
     . exfalso;rcases q with e | e | e
       . cases e
       . cases e.1
       . have:=e.1 hpos;cases this
     go_enter func167,ntmps167;go_wp2_with fail;refine XI.mono ?_;rintro e C ⟨rfl,a⟩;have d:=ar T a;obtain⟨x0,x1,x2,x3,x4,x5,x6⟩:=HC _ a;go_wp2_with fail;refine(B C d).mono ?_;rintro e k ⟨rfl,j⟩;have i:=ar d j;go_wp2_with fail;refine(gv 400 U 0 0 k).mono ?_;rintro e w3 ⟨rfl,x⟩;rw[x];go_wp2_with fail;refine(gv 400 U 0 0 k).mono ?_;rintro e w3 ⟨rfl,x⟩;rw[x];go_wp2;go_ret;exact⟨rfl,i⟩
end
def kB (s:ag):Bool:=decide (7<=s.size)&&decide (s.data.toList.take 7=kG.data.toList)
theorem CD (s:ag)(w:X)(g:s.size<=100000):Calls prog 114 #[V s,V ⟨#[47,102,105,108,101,115,47]⟩] w fun e w'=>e=Y (.bool (kB s))∧w'=w:=by
 by_cases d:7<=s.size
 . have a:(7:Int)<=(s.size:Int):=by omega
   obtain⟨b,f⟩:∃b,((s.extract 0 7).toList==([47,102,105,108,101,115,47]:ae))=b:=⟨_,rfl⟩;have c:Hid (kB s=b):=by
    unfold Hid kB;rw[aV d,Bool.true_and,<-f,QT];rw[ik,bS,cM];rfl
   rw[c.o];go_enter func114,ntmps114;go_wp2;go_ret;exact⟨rfl,rfl⟩
 . have a:¬(7:Int)<=(s.size:Int):=by omega
   have c:Hid (kB s=F):=by
    unfold Hid kB;rw[aW d,Bool.false_and]
   rw[c.o];go_enter func114,ntmps114;go_wp2;go_ret;exact⟨rfl,rfl⟩
theorem Df (s:ag)(w:X)(a:s.size<=100000):Calls prog 70 #[V s,V ⟨#[47,102,105,108,101,115,47]⟩] w fun e w'=>e=Y (.bool (kB s))∧w'=w:=by
 have c:=aa (CD s w a);generalize kB s=b at *;go_enter func70,ntmps70;go_wp2_with fail;refine c.o.mono ?_;rintro e f ⟨rfl,d⟩;rw[d];go_wp2;go_ret;exact⟨rfl,rfl⟩
theorem Rc (s:ag)(w:X)(a:s.size<=100000):Calls prog 139 #[V s] w fun e w'=>e=Y (.bool (tq s))∧w'=w:=by
 have d:=aa (Df s w a);obtain⟨b,f⟩:∃b,(s.toList==([47,102,105,108,101,115]:ae))=b:=⟨_,rfl⟩;have g:s=oy<->b=true:=by rw[<-f];exact ow s oy _ rfl
 have i:Hid (tq s=(b||kB s)):=by
  unfold Hid tq;rw[show decide (s=oy)=b from by rw[ik,bS];exact g];rfl
 rw[i.o];generalize kB s=c at *;cases b with
 | true =>
   go_enter func139,ntmps139;go_wp2;go_ret;exact⟨rfl,rfl⟩
 | false =>
   go_enter func139,ntmps139;go_wp2_with fail;refine d.o.mono ?_;rintro e k ⟨rfl,j⟩;rw[j];go_wp2;go_ret;exact⟨by simp,rfl⟩
theorem Ob (s:ag)(w:X)(d:s.size<=100000)(a:kB s=true):Calls prog 170 #[V s,V ⟨#[47,102,105,108,101,115,47]⟩] w fun e w'=>e=Y (.tuple #[V (s.extract 7 s.size),.bool true])∧w'=w:=by
 have c:=aa (CD s w d);rw[a] at c;have j:7<=s.size:=by
  unfold kB at a;rw[gr,bS] at a;exact a.1
 have f:(7:Int)<=(s.size:Int):=by omega
 have g:Hid (Calls prog 221 #[V s,V ⟨#[47,102,105,108,101,115,47]⟩] w fun e w'=>e=Y (.tuple #[V (s.extract 7 s.size),.bool true])∧w'=w):=by
  unfold Hid;go_enter func221,ntmps221;go_wp2_with fail;refine c.o.mono ?_;rintro e i ⟨rfl,b⟩;rw[b];go_wp2;go_ret2;exact⟨rfl,rfl⟩
 generalize s.extract 7 s.size=x at *;go_enter func170,ntmps170;go_wp2_with fail;refine g.o.mono ?_;rintro e i ⟨rfl,b⟩;rw[b];go_wp2;go_ret2;exact⟨rfl,rfl⟩
theorem Rd (s:ag)(w:X)(c:s.size<=100000)(d:kB s=F):Calls prog 170 #[V s,V ⟨#[47,102,105,108,101,115,47]⟩] w fun e w'=>e=Y (.tuple #[V s,.bool F])∧w'=w:=by
 have b:=aa (CD s w c);rw[d] at b;have f:Hid (Calls prog 221 #[V s,V ⟨#[47,102,105,108,101,115,47]⟩] w fun e w'=>e=Y (.tuple #[V s,.bool F])∧w'=w):=by
  unfold Hid;go_enter func221,ntmps221;go_wp2_with fail;refine b.o.mono ?_;rintro e g ⟨rfl,a⟩;rw[a];go_wp2;go_ret2;exact⟨rfl,rfl⟩
 go_enter func170,ntmps170;go_wp2_with fail;refine f.o.mono ?_;rintro e g ⟨rfl,a⟩;rw[a];go_wp2;go_ret2;exact⟨rfl,rfl⟩
def nP:ag:=⟨#[67,111,110,116,101,110,116,45,76,101,110,103,116,104]⟩
def jM (st:Int)(l:aC):Nat:=if ib st=[] then 11 else if 16<=l.length then 8 else if (aE nP l).length≠0 then 12 else 0
theorem Oc (w:X)(st:Int)(l:aC)(fo bo:ai)(gG gF nb:Nat)(r:bx w fo gG l.length (aI l))(s:l.length<=1000000)(t:∀p∈l,p.1.size<=2000∧p.2.size<=2000):
 Calls prog 186 #[.agg #[I J st,Z fo l.length gG,Z bo nb gF]] w fun e w'=>e=Y (I J (jM st l:Nat))∧Below w.heap.size w w':=by
 have u:∀W,gx w #[I J st,Z fo l.length gG,Z bo nb gF] 106 W->W.cell? ⟨w.heap.size,0,U⟩=M (I J st)∧W.cell? ⟨w.heap.size,1,U⟩=M (Z fo l.length gG)∧W.cell? ⟨w.heap.size,2,U⟩=M (Z bo nb gF):=fun W h=>⟨h.a 0,h.a 1,h.a 2⟩;have c:=gx.j w #[I J st,Z fo l.length gG,Z bo nb gF] 106;have n:=wQ l nP fo gG l.length _ (r.a c.below) rfl s t (by decide);have g:=fun W=>Dv st W;have B:=u _ c;go_enter func186,ntmps186;go_wp2_with fail;refine(g _).mono ?_;rintro e C ⟨rfl,i⟩;subst i;by_cases a:ib st=[]
 . have b:Hid (jM st l=11):=by unfold Hid jM;rw[if_pos a]
   have v:((⟨(ib st).toArray⟩:ag).toList==([]:ae))=true:=by rw[Lib.toList_data,a];rfl
   generalize (⟨(ib st).toArray⟩:ag)=x at *;go_wp2;go_ret;exact⟨by rw[b.o];rfl,c.below⟩
 . have v:((⟨(ib st).toArray⟩:ag).toList==([]:ae))=F:=by rw[Lib.toList_data,aO];simpa using a
   have f:Hid (jM st l=if 16<=l.length then 8 else if (aE nP l).length≠0 then 12 else 0):=by unfold Hid jM;rw[if_neg a]
   generalize (⟨(ib st).toArray⟩:ag)=x at *;by_cases d:16<=l.length
   . have b:jM st l=8:=by rw[f.o,if_pos d]
     have j:decide ((l.length:Int)≥16)=true:=by rw[bS];omega
     go_wp2;go_ret;exact⟨by rw[b];rfl,c.below⟩
   . have j:decide ((l.length:Int)≥16)=F:=by rw[cz];omega
     rw[if_neg d] at f;unfold nP at n;go_wp2_with fail;refine n.mono ?_;rintro e D ⟨G,H,rfl,_,k⟩;have q:=c.d k;rw[show(⟨#[67,111,110,116,101,110,116,45,76,101,110,103,116,104]⟩:ag)=nP from rfl];generalize (aE nP l).length=m at *;by_cases y:0<m
     . have b:jM st l=12:=by rw[f.o,if_pos (by omega)]
       have z:decide ((m:Int) > 0)=true:=by rw[bS];omega
       go_wp2;go_ret;exact⟨by rw[b];rfl,q.below⟩
     . have b:jM st l=0:=by rw[f.o,if_neg (by omega)]
       have z:decide ((m:Int) > 0)=F:=by rw[cz];omega
       go_wp2;go_ret;exact⟨by rw[b];rfl,q.below⟩
inductive pu (S:Nat->Prop)(w:X)(g:Nat)(r:av×jk):Ending->X->Prop
 | ret {ao:ai} {cap n:Nat} {w':X} (hn:r.2.2.length=n) (hO:aG w' w.heap.size 128 2 ao cap n (aI r.2.2)) (hat:aY w' (aB S w) g r.1) (hT:al S w w'):pu S w g r (Y (.agg #[I J (r.2.1:Int),Z ao n cap,Z U 0 0])) w'
 | gave {ao:ai} {cap n:Nat} {w':X} (hn:r.2.2.length=n) (hO:aG w' w.heap.size 128 2 ao cap n (aI r.2.2)) (hat:aY w' (aB S w) g r.1) (hT:al S w w'):pu S w g r (bZ (r.2.1:Int) ao n cap) w'
theorem pu.a {S:Nat->Prop}{w:X}{g:Nat}{r:av×jk}{e:Ending}{w':X}(h:uy aY S w g r e w'):pu S w g r e w':=by
 obtain⟨⟨i,b,n,rfl,c,d⟩,a,f⟩:=h;exact .ret c d a f
structure ka (w0 w:X)(S:Nat->Prop):Prop where
 c:fu w0
 a:Below w0.heap.size w0 w
 b:∀k,S k->w0.heap.size<=k
section
variable {S S':Nat->Prop} {w0 w W W':X} {g:Nat} {bs:List Obj} {s:av}
theorem cj.mh {O:nO}(h:cj O S w g bs s S' W):∀k,S' k->aB S w k:=fun k e=>by
 rcases h.h k e with a | a
 . exact A a.1
 . exact R (by omega)
theorem cj.y {O:nO}(h:cj O S w g bs s S' W)(p:ka w0 w S):fu W:=p.c.a (p.a.trans (h.j.below (fun k e=>p.b k e.1) p.a.size))
theorem cj.d (h:cj aY S w g bs s S' W){a:jk}{e:Ending}(c:hQ W a e W'):Hid (pu S w g (s,a) e W')∧∃(ao:ai) (cap n:Nat),e=bZ (a.1:Int) ao n cap:=by
 obtain⟨ao,cap,n,rfl,d,f,i⟩:=c;have b:=h.a bJ i;exact⟨.gave d (f.j (ce (ej _ _) h.c)) (b.b.a (fun k _ e=>b.mh k e)) (b.j.e (fun k e=>e.1)),ao,cap,n,rfl⟩
theorem cj.jD (h:cj aY S w g bs s S' W){r:av×jk}{ao:ai}{cap n:Nat}(c:r.2.2.length=n)(d:aG W' W.heap.size 128 2 ao cap n (aI r.2.2))(a:aY W' (aB S' W) g r.1)(f:al S' W W'):pu S w g r (bZ (r.2.1:Int) ao n cap) W':=by
 have b:=h.f a f;exact .gave c (d.j (ce (ej _ _) h.c)) (b.b.a (fun k _ e=>b.mh k e)) (b.j.e (fun k e=>e.1))
end
section
variable {g:Nat} {m t:ag} {mi ln:Int} {l:aC} {fo:ai} {gG nf:Nat} {bo:ai} {gF nb:Nat} {w:X} {S:Nat->Prop} {s:av}
theorem yi (h:aY w S g s)(a:Obj):cj aY S w g [K #[Q (M ⟨g,0,U⟩),V m,V t,I J mi,Z fo nf gG,I J ln,Z bo nb gF] 145 (0,0),a] s (fun k=>S k∧k<w.heap.size) ((w.alloc (K #[Q (M ⟨g,0,U⟩),V m,V t,I J mi,Z fo nf gG,I J ln,Z bo nb gF] 145)).alloc a):=by
 have b:(w.alloc (K #[Q (M ⟨g,0,U⟩),V m,V t,I J mi,Z fo nf gG,I J ln,Z bo nb gF] 145)).heap.size=w.heap.size+1:=ch ..;exact((cj.G bJ h).q bJ rfl (fun k e=>e.2) _).q bJ b (fun k e=>by rw[b];have:=e.2;omega) _
theorem cj.jK {bs:List Obj}{S':Nat->Prop}{a:av}{W:X}(h:cj aY S w g (K #[Q (M ⟨g,0,U⟩),V m,V t,I J mi,Z fo nf gG,I J ln,Z bo nb gF] 145 (0,0)::bs) a S' W):W.cell? ⟨w.heap.size,0,U⟩=M (Q (M ⟨g,0,U⟩))∧W.cell? ⟨w.heap.size,1,U⟩=M (V m)∧W.cell? ⟨w.heap.size,2,U⟩=M (V t)∧W.cell? ⟨w.heap.size,3,U⟩=M (I J mi)∧W.cell? ⟨w.heap.size,4,U⟩=M (Z fo nf gG)∧W.cell? ⟨w.heap.size,5,U⟩=M (I J ln)∧W.cell? ⟨w.heap.size,6,U⟩=M (Z bo nb gF):=by
 have r:=h.B 0 rfl;exact⟨am W _ 0 _ _ _ r,am W _ 1 _ _ _ r,am W _ 2 _ _ _ r,am W _ 3 _ _ _ r,am W _ 4 _ _ _ r,am W _ 5 _ _ _ r,am W _ 6 _ _ _ r⟩
theorem Dk (h:aY w S g s)(ok:aN s)(hP:fu w)(ht:t.size<=100000):
 (lZ s.h t=U->Calls prog 121 #[.agg #[Q (M ⟨g,0,U⟩),V m,V t,I J mi,Z fo nf gG,I J ln,Z bo nb gF]] w fun e w'=>hQ w (bY 404 []) e w') ∧
 (∀u,lZ s.h t=M u->Calls prog 121 #[.agg #[Q (M ⟨g,0,U⟩),V m,V t,I J mi,Z fo nf gG,I J ln,Z bo nb gF]] w fun e w'=>∃(ao:ai) (cap:Nat),e=Y (.agg #[I J u.b,I J u.c,V u.d,Z ao u.a.length cap,I J u.e])∧Below w.heap.size w w'):=by
 have T2:cj aY S w g [K #[Q (M ⟨g,0,U⟩),V m,V t,I J mi,Z fo nf gG,I J ln,Z bo nb gF] 145 (0,0),K #[I J 0,I J 0,V ⟨#[]⟩,Z U 0 0,I J 0] 92] s (fun k=>S k∧k<w.heap.size) ((w.alloc (K #[Q (M ⟨g,0,U⟩),V m,V t,I J mi,Z fo nf gG,I J ln,Z bo nb gF] 145)).alloc (K #[I J 0,I J 0,V ⟨#[]⟩,Z U 0 0,I J 0] 92)):=yi h _;have z:Below w.heap.size w ((w.alloc (K #[Q (M ⟨g,0,U⟩),V m,V t,I J mi,Z fo nf gG,I J ln,Z bo nb gF] 145)).alloc (K #[I J 0,I J 0,V ⟨#[]⟩,Z U 0 0,I J 0] 92)):=ar ((aq _ w).alloc (ak _) _) ((aq _ _).alloc (ak _) _);have HC:∀W,cj aY S w g [K #[Q (M ⟨g,0,U⟩),V m,V t,I J mi,Z fo nf gG,I J ln,Z bo nb gF] 145 (0,0),K #[I J 0,I J 0,V ⟨#[]⟩,Z U 0 0,I J 0] 92] s (fun k=>S k∧k<w.heap.size) W->W.cell? ⟨w.heap.size,0,U⟩=M (Q (M ⟨g,0,U⟩))∧W.cell? ⟨w.heap.size,1,U⟩=M (V m)∧W.cell? ⟨w.heap.size,2,U⟩=M (V t)∧W.cell? ⟨w.heap.size,3,U⟩=M (I J mi)∧W.cell? ⟨w.heap.size,4,U⟩=M (Z fo nf gG)∧W.cell? ⟨w.heap.size,5,U⟩=M (I J ln)∧W.cell? ⟨w.heap.size,6,U⟩=M (Z bo nb gF):=fun W L=>L.jK;obtain⟨x0,x1,x2,x3,x4,x5,x6⟩:=HC _ T2;obtain⟨gs,gl,lo,lca,P,hI⟩:=h;have HG:∀W,Below w.heap.size w W->W.cell? ⟨g,0,U⟩=M (Q (M ⟨gs,0,U⟩))∧cE W P gs s.h:=fun W L=>⟨am W _ 0 _ _ _ (hI.d L).a,(hI.d L).e⟩;cases q:kB t with
 | false =>
   have B:∀W,Calls prog 170 #[V t,V ⟨#[47,102,105,108,101,115,47]⟩] W fun e w'=>e=Y (.tuple #[V t,.bool F])∧w'=W:=fun W=>Rd t W ht q;have xE:∀W,Calls prog 171 #[V t] W fun e w'=>e=Y (.tuple #[I J (bB 10 9 t.data.toList).1,.bool (bB 10 9 t.data.toList).2])∧w'=W:=fun W=>wJ t W (by unfold maxLen;omega);have c:lZ s.h t=U:=Ig (fun x=>by
    unfold kB at q;rw[aV (by omega:7<=t.size),Bool.true_and,cz] at q;exact q x.2.1) s.h
   refine⟨fun _=>?_,fun u r=>by rw[c] at r;cases r⟩;generalize bB 10 9 t.data.toList=rn at *;obtain⟨n,okn⟩:=rn;go_enter func121,ntmps121;go_wp2_with fail;refine(B _).mono ?_;rintro e C ⟨rfl,a⟩;rw[a];go_wp2_with fail;refine(xE _).mono ?_;rintro e C ⟨rfl,a⟩;rw[a];go_wp2_with fail;refine(iI 404 404 rfl _).mono ?_;rintro e w9 T;obtain⟨Lm,jI,iB,n9,G⟩:=T.a z;unfold bZ at G;subst G;go_wp2;exact⟨rfl,Lm.o⟩
 | true =>
   have B:∀W,Calls prog 170 #[V t,V ⟨#[47,102,105,108,101,115,47]⟩] W fun e w'=>e=Y (.tuple #[V (t.extract 7 t.size),.bool true])∧w'=W:=fun W=>Ob t W ht q;have xE:∀W,Calls prog 171 #[V (t.extract 7 t.size)] W fun e w'=>e=Y (.tuple #[I J (bB 10 9 (t.data.toList.drop 7)).1,.bool (bB 10 9 (t.data.toList.drop 7)).2])∧w'=W:=fun W=>by
    have:=wJ (t.extract 7 t.size) W (by rw[ByteArray.size_extract];unfold maxLen;omega);rw[Ii] at this;exact this
   have hin2:t.data.toList.take 7=kG.data.toList:=by
    unfold kB at q;rw[gr,bS,bS] at q;exact q.2
   have hsm:(bB 10 9 (t.data.toList.drop 7)).2=true->0<=(bB 10 9 (t.data.toList.drop 7)).1∧(bB 10 9 (t.data.toList.drop 7)).1<1000000000∧7<t.size:=fun e=>⟨(xg e).1,(xg e).2,by
    rcases fe 7 t.size with h | h
    . exact h
    . exfalso;rw[lz (by rw[cy];exact h)] at e;revert e;decide⟩
   have hno:((bB 10 9 (t.data.toList.drop 7)).2=F∨ba 8 (bB 10 9 (t.data.toList.drop 7)).1.toNat≠t.data.toList.drop 7)->lZ s.h t=U:=fun e=>Ig (fun x=>e.elim (fun e=>by have h3:=x.2.2.1;rw[e] at h3;cases h3) (fun e=>e x.2.2.2)) s.h;have hye:=fun(h7:7<t.size) (e:(bB 10 9 (t.data.toList.drop 7)).2=true) (e2:ba 8 (bB 10 9 (t.data.toList.drop 7)).1.toNat=t.data.toList.drop 7)=>QN (t:=t) ⟨h7,hin2,e,e2⟩ s.h;generalize bB 10 9 (t.data.toList.drop 7)=rn at *;obtain⟨n,okn⟩:=rn;simp only at hsm hno hye;cases okn with
   | false =>
     have c:=hno (A rfl);refine⟨fun _=>?_,fun u r=>by rw[c] at r;cases r⟩;generalize t.extract 7 t.size=nm at *;go_enter func121,ntmps121;go_wp2_with fail;refine(B _).mono ?_;rintro e C ⟨rfl,a⟩;rw[a];go_wp2_with fail;refine(xE _).mono ?_;rintro e C ⟨rfl,a⟩;rw[a];go_wp2_with fail;refine(iI 404 404 rfl _).mono ?_;rintro e w9 T;obtain⟨Lm,jI,iB,n9,G⟩:=T.a z;unfold bZ at G;subst G;go_wp2;exact⟨rfl,Lm.o⟩
   | true =>
     obtain⟨hn0,hn1,h7⟩:=hsm rfl;have HIt:∀W,Below w.heap.size w W->Calls prog 149 #[I J n] W fun e w'=>e=Y (V (fb n.toNat))∧Below W.heap.size W w':=fun W L=>by
      have:=qE n.toNat (by omega) W (hP.a L);rw[show((n.toNat:Nat):Int)=n from by omega] at this;exact this
     have HI2:=HIt _ z;obtain⟨bs,hbs⟩:∃b,((fb n.toNat).toList==(t.extract 7 t.size).toList)=b:=⟨_,rfl⟩;have eS:ba 8 n.toNat=t.data.toList.drop 7<->bs=true:=by
      rw[<-hbs,Lib.toList_data,Lib.toList_data,Ii,cM];rfl
     generalize fb n.toNat=nd at *;cases bs with
     | false =>
       have c:=hno (R (fun e=>by have:=eS.1 e;cases this));refine⟨fun _=>?_,fun u r=>by rw[c] at r;cases r⟩;generalize t.extract 7 t.size=nm at *;go_enter func121,ntmps121;go_wp2_with fail;refine(B _).mono ?_;rintro e C ⟨rfl,a⟩;rw[a];go_wp2_with fail;refine(xE _).mono ?_;rintro e C ⟨rfl,a⟩;rw[a];go_wp2_with fail;refine HI2.mono ?_;rintro e w3 ⟨rfl,y⟩;have j:=ar z y;go_wp2_with fail;refine(iI 404 404 rfl _).mono ?_;rintro e w9 T;obtain⟨Lm,jI,iB,n9,G⟩:=T.a j;unfold bZ at G;subst G;go_wp2;exact⟨rfl,Lm.o⟩
     | true =>
       have r:=hye h7 rfl (eS.2 rfl);generalize t.extract 7 t.size=nm at *;cases hp:cq s.h.l n with
       | none =>
         rw[hp] at r;simp only at r;have HGt:∀W,Below w.heap.size w W->Calls prog 29 #[Q (M ⟨gs,0,U⟩),I J n] W fun e w'=>e=Y (.tuple #[.agg #[I J 0,I J 0,V ⟨#[]⟩,Z U 0 0,I J 0],.bool F])∧Below W.heap.size W w':=fun W L=>zv s.h P gs n W (HG W L).2 ok.h hp;refine⟨fun _=>?_,fun u d=>by rw[r] at d;cases d⟩;go_enter func121,ntmps121;go_wp2_with fail;refine(B _).mono ?_;rintro e C ⟨rfl,a⟩;rw[a];go_wp2_with fail;refine(xE _).mono ?_;rintro e C ⟨rfl,a⟩;rw[a];go_wp2_with fail;refine HI2.mono ?_;rintro e w3 ⟨rfl,y⟩;have j:=ar z y;have H3:=T2.a bJ y;obtain⟨x0,x1,x2,x3,x4,x5,x6⟩:=HC _ H3;have g0:=(HG _ j).1;go_wp2_with fail;refine(gv 404 U 0 0 _).mono ?_;rintro e C ⟨rfl,a⟩;rw[a];go_wp2_with fail;refine(HGt _ j).mono ?_;rintro e f ⟨rfl,N⟩;have kF:=ar (ar j N) ((aq _ f).alloc (ak _) (K #[I J 0,I J 0,V ⟨#[]⟩,Z U 0 0,I J 0] 92));go_wp2_with fail;refine(iI 404 404 rfl _).mono ?_;rintro e w9 T;obtain⟨Lm,jI,iB,n9,G⟩:=T.a kF;unfold bZ at G;subst G;go_wp2;exact⟨rfl,Lm.o⟩
       | some i =>
         rw[hp] at r;simp only at r;have hi:=lk hp;rw[gU hi] at r;have HGt:∀W,Below w.heap.size w W->Calls prog 29 #[Q (M ⟨gs,0,U⟩),I J n] W fun e w'=>∃ao cap,e=Y (.tuple #[.agg #[I J s.h.l[i].b,I J s.h.l[i].c,V s.h.l[i].d,Z ao s.h.l[i].a.length cap,I J s.h.l[i].e],.bool true])∧ay w' ao cap s.h.l[i].a∧Below W.heap.size W w':=fun W L=>zw s.h P gs n i W (HG W L).2 ok.h hp hi;generalize s.h.l[i]=u0 at *;refine⟨fun d=>(by rw[r] at d;cases d),fun u d=>?_⟩;rw[r] at d;injection d with d;subst d;generalize u0.a.length=D at *;go_enter func121,ntmps121;go_wp2_with fail;refine(B _).mono ?_;rintro e C ⟨rfl,a⟩;rw[a];go_wp2_with fail;refine(xE _).mono ?_;rintro e C ⟨rfl,a⟩;rw[a];go_wp2_with fail;refine HI2.mono ?_;rintro e w3 ⟨rfl,y⟩;have j:=ar z y;have H3:=T2.a bJ y;obtain⟨x0,x1,x2,x3,x4,x5,x6⟩:=HC _ H3;have g0:=(HG _ j).1;go_wp2_with fail;refine(gv 404 U 0 0 _).mono ?_;rintro e C ⟨rfl,a⟩;rw[a];go_wp2_with fail;refine(HGt _ j).mono ?_;rintro e f ⟨ao,cap,rfl,_,N⟩;have hb5:=(aq _ f).alloc (ak _) (K #[I J u0.b,I J u0.c,V u0.d,Z ao D cap,I J u0.e] 92);have oP:=ar (ar j N) hb5;have H:=((H3.a bJ N).a bJ hb5).B 1 rfl;have v0:(f.alloc (K #[I J u0.b,I J u0.c,V u0.d,Z ao D cap,I J u0.e] 92)).cell? ⟨f.heap.size,0,U⟩=M (I J u0.b):=World.cell?_alloc_mark f _ _ _ 0;have v1:(f.alloc (K #[I J u0.b,I J u0.c,V u0.d,Z ao D cap,I J u0.e] 92)).cell? ⟨f.heap.size,1,U⟩=M (I J u0.c):=World.cell?_alloc_mark f _ _ _ 1;have v2:(f.alloc (K #[I J u0.b,I J u0.c,V u0.d,Z ao D cap,I J u0.e] 92)).cell? ⟨f.heap.size,2,U⟩=M (V u0.d):=World.cell?_alloc_mark f _ _ _ 2;have v3:(f.alloc (K #[I J u0.b,I J u0.c,V u0.d,Z ao D cap,I J u0.e] 92)).cell? ⟨f.heap.size,3,U⟩=M (Z ao D cap):=World.cell?_alloc_mark f _ _ _ 3;have v4:(f.alloc (K #[I J u0.b,I J u0.c,V u0.d,Z ao D cap,I J u0.e] 92)).cell? ⟨f.heap.size,4,U⟩=M (I J u0.e):=World.cell?_alloc_mark f _ _ _ 4;have z0:=am _ _ 0 _ _ _ H;have z1:=am _ _ 1 _ _ _ H;have z2:=am _ _ 2 _ _ _ H;have z3:=am _ _ 3 _ _ _ H;have z4:=am _ _ 4 _ _ _ H
         have y0:=aD _ _ 0 _ _ H;have y1:=aD _ _ 1 _ _ H;have y2:=aD _ _ 2 _ _ H;have y3:=aD _ _ 3 _ _ H;have y4:=aD _ _ 4 _ _ H
         simp at z0 z1 z2 z3 z4;go_upto_region 5 with fail
         generalize (f.alloc (K #[I J u0.b,I J u0.c,V u0.d,Z ao D cap,I J u0.e] 92))=w5 at *;generalize f.heap.size=k4 at *;go_wp2_with fail;refine(gv 404 U 0 0 _).mono ?_;rintro e C ⟨rfl,a⟩;rw[a];go_wp2;have hb6:=((((oP.setCell (p:=⟨w.heap.size+1,0,U⟩) (ej _ _) (I J u0.b)).setCell (p:=⟨w.heap.size+1,1,U⟩) (ej _ _) (I J u0.c)).setCell (p:=⟨w.heap.size+1,2,U⟩) (ej _ _) (V u0.d)).setCell (p:=⟨w.heap.size+1,3,U⟩) (ej _ _) (Z ao D cap)).setCell (p:=⟨w.heap.size+1,4,U⟩) (ej _ _) (I J u0.e);have yL:=aQ _ _ 4 _ _ (I J u0.e) (aQ _ _ 3 _ _ (Z ao D cap) (aQ _ _ 2 _ _ (V u0.d) (aQ _ _ 1 _ _ (I J u0.c) (aQ _ _ 0 _ _ (I J u0.b) H))));generalize (((((w5.setCell ⟨w.heap.size+1,0,U⟩ (Value.int J u0.b)).setCell ⟨w.heap.size+1,1,U⟩ (Value.int J u0.c)).setCell ⟨w.heap.size+1,2,U⟩ (Value.string u0.d)).setCell ⟨w.heap.size+1,3,U⟩ (Value.slice ao D cap)).setCell ⟨w.heap.size+1,4,U⟩ (Value.int J u0.e))=w6 at hb6 yL ⊢;have r0:=am w6 _ 0 _ _ _ yL;have r1:=am w6 _ 1 _ _ _ yL;have r2:=am w6 _ 2 _ _ _ yL;have r3:=am w6 _ 3 _ _ _ yL;have r4:=am w6 _ 4 _ _ _ yL;exact aR (v:=.agg #[I J u0.b,I J u0.c,V u0.d,Z ao D cap,I J u0.e]) (by simp[results,results121,go_sem,r0,r1,r2,r3,r4]) rfl ⟨ao,cap,rfl,hb6⟩
end
section
variable {g:Nat} {m t:ag} {mi ln:Int} {l:aC} {fo:ai} {gG nf:Nat} {bo:ai} {gF nb:Nat} {w:X}
theorem M1 (h:gz w l fo gG nf)(c:(bj (aT jR l)).2=9):
 Calls prog 172 #[.agg #[Q (M ⟨g,0,U⟩),V m,V t,I J mi,Z fo nf gG,I J ln,Z bo nb gF]] w fun e w'=>hQ w (bY 400 []) e w':=by
 have a:=(aq _ w).alloc (ak _) (K #[Q (M ⟨g,0,U⟩),V m,V t,I J mi,Z fo nf gG,I J ln,Z bo nb gF] 145);have j:=rV (g:=g) (m:=m) (t:=t) (mi:=mi) (ln:=ln) (fo:=fo) (gG:=gG) (nf:=nf) (bo:=bo) (gF:=gF) (nb:=nb) (w:=w) (aq _ _);go_enter func172,ntmps172;go_wp2_with fail;refine(rQ ti (by decide) (h.a a) (v:=(bj (aT jR l)).1) (by rw[B2,<-c])).mono ?_;rintro e k d;obtain⟨f,p,i,n,b⟩:=d.a a;unfold bZ at b;subst b;go_wp2;exact⟨rfl,f.o⟩
theorem Pf (h:gz w l fo gG nf)(B:(bj (aT jR l)).2≠9):
 (ry (bj (aT jR l)).1=F->Calls prog 172 #[.agg #[Q (M ⟨g,0,U⟩),V m,V t,I J mi,Z fo nf gG,I J ln,Z bo nb gF]] w fun e w'=>hQ w (bY 415 []) e w') ∧
 (ry (bj (aT jR l)).1=true->Calls prog 172 #[.agg #[Q (M ⟨g,0,U⟩),V m,V t,I J mi,Z fo nf gG,I J ln,Z bo nb gF]] w fun e w'=>e=Y (.tuple #[])∧Below w.heap.size w w'):=by
 have p:=(aq _ w).alloc (ak _) (K #[Q (M ⟨g,0,U⟩),V m,V t,I J mi,Z fo nf gG,I J ln,Z bo nb gF] 145);have x0:=rV (g:=g) (m:=m) (t:=t) (mi:=mi) (ln:=ln) (fo:=fo) (gG:=gG) (nf:=nf) (bo:=bo) (gF:=gF) (nb:=nb) (w:=w) (aq _ _);have L:=h.d jR;generalize N:bj (aT jR l)=r at *;obtain⟨v,c⟩:=r;simp only at L B;have q:=rO (g:=g) (m:=m) (t:=t) (mi:=mi) (ln:=ln) (bo:=bo) (gF:=gF) (nb:=nb) ti (by decide) (h.a p) (by rw[B2];exact N) B;unfold ti at q;have C:∀W,Calls prog 223 #[V ⟨v.toArray⟩] W fun e w'=>ur W (eh v) e w':=fun W=>by
  have:=CC ⟨v.toArray⟩ W (by show v.toArray.size<=_;rw[cN];omega);rw[show(⟨v.toArray⟩:ag).data.toList=v from by simp] at this;exact this
 have D:∀word a code,B7 (eh v) word a code->(ry v=(word.toList==([97,112,112,108,105,99,97,116,105,111,110,47,111,102,102,115,101,116,43,111,99,116,101,116,45,115,116,114,101,97,109]:ae))):=fun word a code b=>by
  rw[ik,cM,Lib.toList_data];unfold ry;cases G:eh v with
  | inl c =>
    rw[G] at b;obtain⟨S,s,T⟩:=b;subst s;constructor
    . intro e;cases e
    . intro e;simp at e
  | inr x =>
    rw[G] at b;obtain⟨S,s,T⟩:=b;simp only[bS];rw[s];rfl
 generalize decide (c=0)=cb at *;generalize (⟨v.toArray⟩:ag)=vb at *;generalize ry v=off at *;generalize eh v=md at *;refine⟨fun n=>?_,fun n=>?_⟩
 . subst n;go_enter func172,ntmps172;go_wp2_with fail;refine q.mono ?_;rintro e u ⟨rfl,d⟩;have f:=ar p d;go_wp2_with fail;refine(C u).mono ?_;rintro e y ⟨word,a,z,i,code,rfl,b,_,j⟩;have n:=(D _ _ _ b).symm;have k:=ar (ar f j) ((aq _ y).alloc (ak _) (K #[V word,Z z a.length i] 203));generalize a.length=np at *;go_wp2_with fail;refine(iI 415 415 rfl _).mono ?_;rintro e w9 hG;obtain⟨HG,jI,iB,n9,H⟩:=hG.a k;unfold bZ at H;subst H;go_wp2;exact⟨rfl,HG.o⟩
 . subst n;go_enter func172,ntmps172;go_wp2_with fail;refine q.mono ?_;rintro e u ⟨rfl,d⟩;have f:=ar p d;go_wp2_with fail;refine(C u).mono ?_;rintro e y ⟨word,a,z,i,code,rfl,b,_,j⟩;have n:=(D _ _ _ b).symm;have k:=ar (ar f j) ((aq _ y).alloc (ak _) (K #[V word,Z z a.length i] 203));generalize a.length=np at *;go_wp2_with fail;refine(gv 415 U 0 0 _).mono ?_;rintro e w9 ⟨rfl,hw⟩;rw[hw];go_wp2;go_end0
   exact⟨rfl,k⟩
theorem Ct (id a sent x d:Int)(b:ag)(uo:ai)(un gT:Nat)(w:X)(C:-1<=a):
 (0<=a->x≠a->Calls prog 174 #[.agg #[I J id,I J a,V b,Z uo un gT,I J sent],I J x,I J d] w fun e w'=>hQ w (bY 400 []) e w') ∧
 (a<0->(2000<x∨x<d)->Calls prog 174 #[.agg #[I J id,I J a,V b,Z uo un gT,I J sent],I J x,I J d] w fun e w'=>hQ w (bY 413 []) e w') ∧
 ((0<=a∧x=a)∨(a<0∧¬(2000<x∨x<d))->Calls prog 174 #[.agg #[I J id,I J a,V b,Z uo un gT,I J sent],I J x,I J d] w fun e w'=>e=Y (.tuple #[])∧Below w.heap.size w w'):=by
 have f:=(aq _ w).alloc (ak _) (K #[I J id,I J a,V b,Z uo un gT,I J sent] 92);have D:(w.alloc (K #[I J id,I J a,V b,Z uo un gT,I J sent] 92)).cell? ⟨w.heap.size,1,U⟩=M (I J a):=World.cell?_alloc_mark w _ _ _ 1;refine⟨fun p q=>?_,fun p v=>?_,fun r=>?_⟩
 . have k:(a != -1)=true:=by rw[cW];omega
   have s:(x==a)=F:=by rw[aO];exact q
   go_enter func174,ntmps174;go_wp2_with fail;refine(iI 400 400 rfl _).mono ?_;rintro e n i;obtain⟨j,y,z,B,c⟩:=i.a f;unfold bZ at c;subst c;go_wp2;exact⟨rfl,j.o⟩
 . obtain rfl:a=-1:=by omega
   by_cases G:2000<x
   . have k:decide (x<=2000)=F:=by rw[cz];omega
     go_enter func174,ntmps174;go_wp2_with fail;refine(iI 413 413 rfl _).mono ?_;rintro e n i;obtain⟨j,y,z,B,c⟩:=i.a f;unfold bZ at c;subst c;go_wp2;exact⟨rfl,j.o⟩
   . have k:decide (x<=2000)=true:=by rw[bS];omega
     have s:decide (x≥d)=F:=by rw[cz];omega
     go_enter func174,ntmps174;go_wp2_with fail;refine(iI 413 413 rfl _).mono ?_;rintro e n i;obtain⟨j,y,z,B,c⟩:=i.a f;unfold bZ at c;subst c;go_wp2;exact⟨rfl,j.o⟩
 . rcases r with ⟨p,rfl⟩ | ⟨p,H⟩
   . have k:(x != -1)=true:=by rw[cW];omega
     have s:(x==x)=true:=by simp
     go_enter func174,ntmps174;go_wp2_with fail;refine(gv 400 U 0 0 _).mono ?_;rintro e n ⟨rfl,u⟩;rw[u];go_wp2;first | go_end0 | refine aR (results_none rfl _ _ _) rfl ?_
     exact⟨rfl,f⟩
   . obtain rfl:a=-1:=by omega
     have k:decide (x<=2000)=true:=by rw[bS];omega
     have s:decide (x≥d)=true:=by rw[bS];omega
     go_enter func174,ntmps174;go_wp2_with fail;refine(gv 413 U 0 0 _).mono ?_;rintro e n ⟨rfl,u⟩;rw[u];go_wp2;go_end0
     exact⟨rfl,f⟩
end
section
variable {g:Nat} {m t:ag} {mi ln:Int} {l:aC} {fo:ai} {gG nf:Nat} {bo:ai} {gF nb:Nat} {w w0:X} {S:Nat->Prop} {s:av}
theorem Hu (h:aY w S g s)(a b:Obj):cj aY S w g [K #[Q (M ⟨g,0,U⟩),V m,V t,I J mi,Z fo nf gG,I J ln,Z bo nb gF] 145 (0,0),a,b] s (fun k=>S k∧k<w.heap.size) (((w.alloc (K #[Q (M ⟨g,0,U⟩),V m,V t,I J mi,Z fo nf gG,I J ln,Z bo nb gF] 145)).alloc a).alloc b):=by
 have c:((w.alloc (K #[Q (M ⟨g,0,U⟩),V m,V t,I J mi,Z fo nf gG,I J ln,Z bo nb gF] 145)).alloc a).heap.size=w.heap.size+2:=by rw[ch,ch]
 exact(yi h a).q bJ c (fun k e=>by rw[c];have:=e.2;omega) _
theorem cj.mq {bs:List Obj}{S':Nat->Prop}{a:av}{W:X}{u:aL}{uo:ai}{un gT:Nat}(h:cj aY S w g (K #[Q (M ⟨g,0,U⟩),V m,V t,I J mi,Z fo nf gG,I J ln,Z bo nb gF] 145 (0,0)::K #[I J u.b,I J u.c,V u.d,Z uo un gT,I J u.e] 92 (0,0)::bs) a S' W):W.cell? ⟨w.heap.size+1,0,U⟩=M (I J u.b)∧W.cell? ⟨w.heap.size+1,1,U⟩=M (I J u.c)∧W.cell? ⟨w.heap.size+1,2,U⟩=M (V u.d)∧W.cell? ⟨w.heap.size+1,3,U⟩=M (Z uo un gT)∧W.cell? ⟨w.heap.size+1,4,U⟩=M (I J u.e):=by
 have r:=h.B 1 rfl;exact⟨am W _ 0 _ _ _ r,am W _ 1 _ _ _ r,am W _ 2 _ _ _ r,am W _ 3 _ _ _ r,am W _ 4 _ _ _ r⟩
theorem Dl (h:aY w S g s)(ok:aN s)(u:aL)(uo:ai)(un gT:Nat):
 Calls prog 124 #[.agg #[Q (M ⟨g,0,U⟩),V m,V t,I J mi,Z fo nf gG,I J ln,Z bo nb gF],.agg #[I J u.b,I J u.c,V u.d,Z uo un gT,I J u.e]] w fun e w'=>pu S w g (ey (gn s u.b).1,bY 204 []) e w':=by
 have c:cj aY S w g [K #[Q (M ⟨g,0,U⟩),V m,V t,I J mi,Z fo nf gG,I J ln,Z bo nb gF] 145 (0,0),K #[I J u.b,I J u.c,V u.d,Z uo un gT,I J u.e] 92 (0,0),K #[I J 0,Z U 0 0,Z U 0 0] 106 (0,0)] s (fun k=>S k∧k<w.heap.size) (((w.alloc (K #[Q (M ⟨g,0,U⟩),V m,V t,I J mi,Z fo nf gG,I J ln,Z bo nb gF] 145)).alloc (K #[I J u.b,I J u.c,V u.d,Z uo un gT,I J u.e] 92)).alloc (K #[I J 0,Z U 0 0,Z U 0 0] 106)):=Hu h _ _;have j:∀W n p,cj aY S w g [K #[Q (M ⟨g,0,U⟩),V m,V t,I J mi,Z fo nf gG,I J ln,Z bo nb gF] 145 (0,0),K #[I J u.b,I J u.c,V u.d,Z uo un gT,I J u.e] 92 (0,0),K #[I J 0,Z U 0 0,Z U 0 0] 106 (0,0)] n p W->W.cell? ⟨w.heap.size,0,U⟩=M (Q (M ⟨g,0,U⟩))∧W.cell? ⟨w.heap.size,1,U⟩=M (V m)∧W.cell? ⟨w.heap.size,2,U⟩=M (V t)∧W.cell? ⟨w.heap.size,3,U⟩=M (I J mi)∧W.cell? ⟨w.heap.size,4,U⟩=M (Z fo nf gG)∧W.cell? ⟨w.heap.size,5,U⟩=M (I J ln)∧W.cell? ⟨w.heap.size,6,U⟩=M (Z bo nb gF):=fun W n p C=>C.jK;obtain⟨D,x1,x2,x3,x4,x5,x6⟩:=j _ _ _ c;have v0:=c.mq;have f:Hid ((ey (gn s u.b).1,bY 204 [])=(ey (gn s u.b).1,bY 204 [])):=by unfold Hid;rfl
 obtain⟨a,q⟩:∃a,a=(ey (gn s u.b).1,bY 204 []):=⟨_,rfl⟩;rw[<-q];have f:=aa q;go_enter func124,ntmps124;go_wp2_with fail;refine(CF c.b ok u.b).mono ?_;rintro e w4 ⟨rfl,G,H⟩;have d:=aa (c.f G H);generalize gn s u.b=L at *;obtain⟨sa,ca⟩:=L;simp only at f d ⊢;have D:=j _ _ _ d.o;go_wp2_with fail;refine(rM d.o.b).mono ?_;rintro e r ⟨rfl,N,T⟩;have x:=d.o.ku N T;go_wp2_with fail;refine(oG 204 204 rfl [] U 0 0 r (bx.f r) rfl (by decide)).mono ?_;rintro e w9 ⟨y,z,B,rfl,mK,jY,qM⟩;obtain⟨⟨z0,z1,z2,y0,y1,y2⟩,HE⟩:=x.e bJ (i:=2) rfl (b:=w.heap.size+2) (by first | rfl | omega) (st:=204) (mY:=204) rfl mK (ce (ej _ _) x.c) jY qM;go_wp2;generalize (((w9.setCell ⟨w.heap.size+2,0,U⟩ (I J 204)).setCell ⟨w.heap.size+2,1,U⟩ (Z y B z)).setCell ⟨w.heap.size+2,2,U⟩ (Z U 0 0))=wf at *;obtain⟨q0,q1,q2,q3⟩:=HE.o;refine aR (v:=.agg #[I J 204,Z y B z,Z U 0 0]) (by simp[results,results124,go_sem,q0,q1,q2]) rfl ?_;rw[f.o];exact pu.a q3
end
section
variable {g:Nat} {m t:ag} {mi ln:Int} {l:aC} {fo:ai} {gG nf:Nat} {bo:ai} {gF nb:Nat} {w w0:X} {S:Nat->Prop} {s:av}
theorem IU (a:ag)(f:a.size<=2000)(h:gz w l fo gG nf):
 ((dl (bj (aT a l))).2=F∧Hid (∀W,Below w.heap.size w W->Calls prog 173 #[.agg #[Q (M ⟨g,0,U⟩),V m,V t,I J mi,Z fo nf gG,I J ln,Z bo nb gF],V a] W fun e w'=>hQ W (bY 400 []) e w')) ∨
 (dl (bj (aT a l))=(-1,true)∧Hid (∀W,Below w.heap.size w W->Calls prog 173 #[.agg #[Q (M ⟨g,0,U⟩),V m,V t,I J mi,Z fo nf gG,I J ln,Z bo nb gF],V a] W fun e w'=>e=Y (.tuple #[I J 0,.bool F])∧Below W.heap.size W w')) ∨
 (∃x:Int,0<=x∧x<1000000000∧dl (bj (aT a l))=(x,true)∧Hid (∀W,Below w.heap.size w W->Calls prog 173 #[.agg #[Q (M ⟨g,0,U⟩),V m,V t,I J mi,Z fo nf gG,I J ln,Z bo nb gF],V a] W fun e w'=>e=Y (.tuple #[I J x,.bool true])∧Below W.heap.size W w')):=by
 by_cases c:(bj (aT a l)).2=10
 . exact R (A ⟨Ia c,fun W d=>CK a f (h.a d) c⟩)
 . cases b:(dl (bj (aT a l))).2 with
   | false=>exact A ⟨rfl,fun W d=>Ds a f (h.a d) b⟩
   | true =>
     have i:dl (bj (aT a l))=((dl (bj (aT a l))).1,true):=by rw[<-b]
     refine R (R ⟨_,Ib c i,?_,i,fun W d=>Dd a f (h.a d) c i⟩);generalize bj (aT a l)=r at *;unfold dl at b ⊢;rw[if_neg c] at b ⊢;rw[gr] at b;exact(xg b.1).2
theorem Dn (p:ka w0 w S)(h:aY w S g s)(ok:aN s)(hF:gz w l fo gG nf)(body:ae)(hb:body.length=nb)(hB:ay w bo gF body)(hnb:nb<=100000)(u:aL)(uo:ai)(un gT:Nat)(hun:u.a.length=un)(XK:un<=2000)(hs0:-1<=u.c):
 Calls prog 123 #[.agg #[Q (M ⟨g,0,U⟩),V m,V t,I J mi,Z fo nf gG,I J ln,Z bo nb gF],.agg #[I J u.b,I J u.c,V u.d,Z uo un gT,I J u.e]] w fun e w'=>pu S w g (lw s u l body) e w':=by
 have T3:cj aY S w g [K #[Q (M ⟨g,0,U⟩),V m,V t,I J mi,Z fo nf gG,I J ln,Z bo nb gF] 145 (0,0),K #[I J u.b,I J u.c,V u.d,Z uo un gT,I J u.e] 92 (0,0),K #[I J 0,Z U 0 0,Z U 0 0] 106 (0,0)] s (fun k=>S k∧k<w.heap.size) (((w.alloc (K #[Q (M ⟨g,0,U⟩),V m,V t,I J mi,Z fo nf gG,I J ln,Z bo nb gF] 145)).alloc (K #[I J u.b,I J u.c,V u.d,Z uo un gT,I J u.e] 92)).alloc (K #[I J 0,Z U 0 0,Z U 0 0] 106)):=Hu h _ _;have HB3:Below w.heap.size w (((w.alloc (K #[Q (M ⟨g,0,U⟩),V m,V t,I J mi,Z fo nf gG,I J ln,Z bo nb gF] 145)).alloc (K #[I J u.b,I J u.c,V u.d,Z uo un gT,I J u.e] 92)).alloc (K #[I J 0,Z U 0 0,Z U 0 0] 106)):=ar (ar ((aq _ w).alloc (ak _) _) ((aq _ _).alloc (ak _) _)) ((aq _ _).alloc (ak _) _);have HC:∀W s' S',cj aY S w g [K #[Q (M ⟨g,0,U⟩),V m,V t,I J mi,Z fo nf gG,I J ln,Z bo nb gF] 145 (0,0),K #[I J u.b,I J u.c,V u.d,Z uo un gT,I J u.e] 92 (0,0),K #[I J 0,Z U 0 0,Z U 0 0] 106 (0,0)] s' S' W->W.cell? ⟨w.heap.size,0,U⟩=M (Q (M ⟨g,0,U⟩))∧W.cell? ⟨w.heap.size,1,U⟩=M (V m)∧W.cell? ⟨w.heap.size,2,U⟩=M (V t)∧W.cell? ⟨w.heap.size,3,U⟩=M (I J mi)∧W.cell? ⟨w.heap.size,4,U⟩=M (Z fo nf gG)∧W.cell? ⟨w.heap.size,5,U⟩=M (I J ln)∧W.cell? ⟨w.heap.size,6,U⟩=M (Z bo nb gF):=fun W s' S' hW=>hW.jK;have HU:∀W s' S',cj aY S w g [K #[Q (M ⟨g,0,U⟩),V m,V t,I J mi,Z fo nf gG,I J ln,Z bo nb gF] 145 (0,0),K #[I J u.b,I J u.c,V u.d,Z uo un gT,I J u.e] 92 (0,0),K #[I J 0,Z U 0 0,Z U 0 0] 106 (0,0)] s' S' W->W.cell? ⟨w.heap.size+1,0,U⟩=M (I J u.b)∧W.cell? ⟨w.heap.size+1,1,U⟩=M (I J u.c)∧W.cell? ⟨w.heap.size+1,2,U⟩=M (V u.d)∧W.cell? ⟨w.heap.size+1,3,U⟩=M (Z uo un gT)∧W.cell? ⟨w.heap.size+1,4,U⟩=M (I J u.e):=fun W s' S' hW=>hW.mq;obtain⟨x0,x1,x2,x3,x4,x5,x6⟩:=HC _ _ _ T3;obtain⟨v0,v1,v2,v3,v4⟩:=HU _ _ _ T3;have HF:=hF;have vX:=aa ok;have Lp:=aa p
 have Ea:∀W,Below w.heap.size w W->ay W bo gF body:=fun W hW=>hB.a hW;have hN1:=IU (g:=g) (m:=m) (t:=t) (mi:=mi) (ln:=ln) (bo:=bo) (gF:=gF) (nb:=nb) dq (by decide) hF;have hN2:=IU (g:=g) (m:=m) (t:=t) (mi:=mi) (ln:=ln) (bo:=bo) (gF:=gF) (nb:=nb) gO (by decide) hF;rw[QP] at hN1;rw[wi] at hN2;unfold dq at hN1;unfold gO at hN2;have O6:∀x W,0<=u.c->x≠u.c->Calls prog 174 #[.agg #[I J u.b,I J u.c,V u.d,Z uo un gT,I J u.e],I J x,I J ((un:Int)+nb)] W fun e w'=>hQ W (bY 400 []) e w':=fun x W=>(Ct u.b u.c u.e x ((un:Int)+nb) u.d uo un gT W hs0).1;have HS2:∀x W,u.c<0->(2000<x∨x<(un:Int)+nb)->Calls prog 174 #[.agg #[I J u.b,I J u.c,V u.d,Z uo un gT,I J u.e],I J x,I J ((un:Int)+nb)] W fun e w'=>hQ W (bY 413 []) e w':=fun x W=>(Ct u.b u.c u.e x ((un:Int)+nb) u.d uo un gT W hs0).2.1;have Au:∀x W,(0<=u.c∧x=u.c)∨(u.c<0∧¬(2000<x∨x<(un:Int)+nb))->Calls prog 174 #[.agg #[I J u.b,I J u.c,V u.d,Z uo un gT,I J u.e],I J x,I J ((un:Int)+nb)] W fun e w'=>e=Y (.tuple #[])∧Below W.heap.size W w':=fun x W=>(Ct u.b u.c u.e x ((un:Int)+nb) u.d uo un gT W hs0).2.2;obtain⟨aah,hR⟩:∃aah,aah=lw s u l body:=⟨_,rfl⟩;rw[<-hR];unfold lw at hR;rw[hun,hb] at hR;have a:=aa hR;go_enter func123,ntmps123;by_cases hc9:(bj (aT jR l)).2=9
 . rw[if_pos hc9] at a;have HM:=M1 (g:=g) (m:=m) (t:=t) (mi:=mi) (ln:=ln) (bo:=bo) (gF:=gF) (nb:=nb) (HF.a HB3) hc9;go_wp2_with fail;refine(HM).mono ?_;rintro e G n;obtain⟨f,z,B,C,d⟩:=T3.d n;unfold bZ at d;subst d;go_wp2;exact⟨rfl,by rw[a.o];exact f.o⟩
 rw[if_neg hc9] at a;obtain⟨hm1,hm2⟩:=Pf (g:=g) (m:=m) (t:=t) (mi:=mi) (ln:=ln) (bo:=bo) (gF:=gF) (nb:=nb) (HF.a HB3) hc9;cases hoff:ry (bj (aT jR l)).1 with
 | false =>
   rw[if_pos hoff] at a;have HM:=hm1 hoff;go_wp2_with fail;refine(HM).mono ?_;rintro e G n;obtain⟨f,z,B,C,d⟩:=T3.d n;unfold bZ at d;subst d;go_wp2;exact⟨rfl,by rw[a.o];exact f.o⟩
 | true =>
 rw[if_neg (by rw[hoff];simp)] at a;have HM:=hm2 hoff;go_wp2_with fail;refine(HM).mono ?_;rintro e w4 ⟨rfl,c⟩;have kF:=ar HB3 c;have H4:=T3.a bJ c;obtain⟨x0,x1,x2,x3,x4,x5,x6⟩:=HC _ _ _ H4;obtain⟨v0,v1,v2,v3,v4⟩:=HU _ _ _ H4;rcases hN1 with ⟨hx,HN⟩ | ⟨hx,HN⟩ | ⟨x,hx0,hx1,hx,HN⟩
 . rw[if_pos (A hx)] at a;go_wp2_with fail;refine(HN.o _ kF).mono ?_;rintro e G n;obtain⟨f,z,B,C,d⟩:=H4.d n;unfold bZ at d;subst d;go_wp2;exact⟨rfl,by rw[a.o];exact f.o⟩
 . rw[if_pos (R (by rw[hx];decide))] at a;go_wp2_with fail;refine(HN.o _ kF).mono ?_;rintro e w5 ⟨rfl,c⟩;have oP:=ar kF c;have H5:=H4.a bJ c;obtain⟨x0,x1,x2,x3,x4,x5,x6⟩:=HC _ _ _ H5;obtain⟨v0,v1,v2,v3,v4⟩:=HU _ _ _ H5;go_wp2_with fail;refine(iI 400 400 rfl _).mono ?_;rintro e G n;obtain⟨f,z,B,C,d⟩:=H5.d n;unfold bZ at d;subst d;go_wp2;exact⟨rfl,by rw[a.o];exact f.o⟩
 rw[if_neg (by rw[hx];exact fun e=>e.elim (fun e=>by cases e) (fun e=>absurd e (by show ¬x<0;omega)))] at a;rw[hx] at a;simp only at a;go_wp2_with fail;refine(HN.o _ kF).mono ?_;rintro e w5 ⟨rfl,c⟩;have oP:=ar kF c;have H5:=H4.a bJ c;obtain⟨x0,x1,x2,x3,x4,x5,x6⟩:=HC _ _ _ H5;obtain⟨v0,v1,v2,v3,v4⟩:=HU _ _ _ H5;go_wp2_with fail;refine(gv 400 U 0 0 _).mono ?_;rintro e wq ⟨rfl,c⟩;rw[c];by_cases hxu:x=(un:Int)
 case neg =>
  rw[if_pos hxu] at a;have tx:(x==(un:Int))=F:=by rw[aO];exact hxu
  go_wp2_with fail;refine(iI 409 409 rfl _).mono ?_;rintro e G n;obtain⟨f,z,B,C,d⟩:=H5.d n;unfold bZ at d;subst d;go_wp2;exact⟨rfl,by rw[a.o];exact f.o⟩
 rw[if_neg (fun e=>e hxu)] at a;subst hxu;go_wp2_with fail;refine(gv 409 U 0 0 _).mono ?_;rintro e wq ⟨rfl,c⟩;rw[c];rcases hN2 with ⟨hy,HN⟩ | ⟨hy,HN⟩ | ⟨y,hy0,hy1,hy,HN⟩
 . rw[if_pos (A hy)] at a;go_wp2_with fail;refine(HN.o _ oP).mono ?_;rintro e G n;obtain⟨f,z,B,C,d⟩:=H5.d n;unfold bZ at d;subst d;go_wp2;exact⟨rfl,by rw[a.o];exact f.o⟩
 . have T:qj u l<->(0<=(-1:Int)∧u.c<0):=by unfold qj;rw[hy]
   rw[hy] at a;simp only at a;rw[if_neg (fun e=>e.elim (fun e=>by cases e) (fun e=>by have:=e.1;omega)),if_neg (fun e=>by have:=(T.1 e.1).1;omega)] at a;go_wp2_with fail;refine(HN.o _ oP).mono ?_;rintro e w6 ⟨rfl,c⟩;have wB:=ar oP c;have H6:=H5.a bJ c;obtain⟨x0,x1,x2,x3,x4,x5,x6⟩:=HC _ _ _ H6;obtain⟨v0,v1,v2,v3,v4⟩:=HU _ _ _ H6;obtain⟨L,KS⟩:∃b,(decide ((0:Int)<=(nb:Int)+60)&&decide ((nb:Int)+60<=100000-(s.a.length:Int)))=b:=⟨_,rfl⟩;have eR:L=F<->100000<s.a.length+(nb+60):=by
    rw[<-KS,qu,cz,cz];omega
   have WC:=zg H6.b ((nb:Int)+60);rw[KS] at WC;go_wp2_with fail;refine WC.mono ?_;rintro e wq ⟨rfl,c⟩;rw[c];cases L with
   | false =>
     rw[if_pos (eR.1 rfl)] at a;go_wp2_with fail;refine(iI 507 507 rfl _).mono ?_;rintro e G n;obtain⟨f,z,B,C,d⟩:=H6.d n;unfold bZ at d;subst d;go_wp2;exact⟨rfl,by rw[a.o];exact f.o⟩
   | true =>
     rw[if_neg (fun e=>by have:=eR.2 e;cases this)] at a;go_wp2_with fail;refine(gv 507 U 0 0 _).mono ?_;rintro e wq ⟨rfl,c⟩;rw[c];have Qn:=yQ H6.b vX.o u.b (un:Int) bo nb gF body (Ea _ wB) hb (by omega);have F7:(cL s u.b (un:Int) body).2≠0->(cL s u.b (un:Int) body).1=s:=fun e=>by unfold cL at e ⊢;exact qh e
     have HOa:aN (cL s u.b (un:Int) body).1:=vX.o.a _ _ _;go_wp2_with fail;refine Qn.mono ?_;rintro e w20 ⟨rfl,N,hT⟩;have D:=H6.f N hT;generalize cL s u.b (un:Int) body=ra at *;obtain⟨sa,ca⟩:=ra;simp only at a F7 D HOa ⊢;obtain⟨x0,x1,x2,x3,x4,x5,x6⟩:=HC _ _ _ D;obtain⟨v0,v1,v2,v3,v4⟩:=HU _ _ _ D;by_cases j:ca=0
     . subst j;rw[if_neg (by simp)] at a;go_wp2_with fail;refine(yO _).mono ?_;rintro e wq ⟨rfl,c⟩;rw[c];rw[if_neg (fun e=>by have:=(T.1 e).1;omega)] at a;have Lf:=rM D.b;go_wp2_with fail;refine Lf.mono ?_;rintro e w22 ⟨rfl,wz,yX⟩;have H:=D.ku wz yX;have Bu:=ud dq (un+nb) ((un:Int)+nb) (by omega) (by omega) w22 (H.y Lp.o);unfold dq at Bu;generalize fb (un+nb)=db at *;go_wp2_with fail;refine Bu.mono ?_;rintro e q ⟨rfl,c⟩;have r:=(H.a bJ c).a bJ ((aq _ q).alloc (ak _) (K #[V dq,V db] 128));have NR:=oG 204 204 rfl [(dq,db)] (M ⟨q.heap.size,0,U⟩) 1 1 _ (bx.d q #[V dq,V db] 1 128 (0,0)) rfl (by decide);unfold dq at NR r;go_wp2_with fail;refine NR.mono ?_;rintro e G ⟨z,B,C,rfl,mK,jY,qM⟩;obtain⟨⟨z0,z1,z2,y0,y1,y2⟩,f⟩:=r.e bJ (i:=2) rfl (b:=w.heap.size+2) (by first | rfl | omega) (st:=204) (mY:=204) rfl mK (ce (ej _ _) r.c) jY qM;go_wp2;generalize (((G.setCell ⟨w.heap.size+2,0,U⟩ (I J 204)).setCell ⟨w.heap.size+2,1,U⟩ (Z z C B)).setCell ⟨w.heap.size+2,2,U⟩ (Z U 0 0))=wf at *;obtain⟨q0,q1,q2,q3⟩:=f.o;refine aR (v:=.agg #[I J 204,Z z C B,Z U 0 0]) (by simp[results,results123,go_sem,q0,q1,q2]) rfl ?_;rw[a.o];exact pu.a q3
     . rw[if_pos j] at a;have hsa:=F7 j;subst hsa;have HNd:=zc ca j w20;go_wp2_with fail;refine(HNd).mono ?_;rintro e G n;obtain⟨f,z,B,C,d⟩:=D.d n;unfold bZ at d;subst d;go_wp2;exact⟨rfl,by rw[a.o];exact f.o⟩
 . have T:qj u l<->(0<=y∧u.c<0):=by unfold qj;rw[hy]
   rw[hy] at a;simp only at a;go_wp2_with fail;refine(HN.o _ oP).mono ?_;rintro e w6 ⟨rfl,c⟩;have wB:=ar oP c;have H6:=H5.a bJ c;obtain⟨x0,x1,x2,x3,x4,x5,x6⟩:=HC _ _ _ H6;obtain⟨v0,v1,v2,v3,v4⟩:=HU _ _ _ H6;by_cases hsz:u.c<0
   . rw[if_neg (fun e=>e.elim (fun e=>by cases e) (fun e=>by have:=e.2.1;omega))] at a;by_cases hbad:2000<y∨y<(un:Int)+nb
     . rw[if_pos ⟨T.2 ⟨hy0,hsz⟩,by simpa using hbad⟩] at a;have HQ:=HS2 y w6 hsz hbad;go_wp2_with fail;refine(HQ).mono ?_;rintro e G n;obtain⟨f,z,B,C,d⟩:=H6.d n;unfold bZ at d;subst d;go_wp2;exact⟨rfl,by rw[a.o];exact f.o⟩
     . rw[if_neg (fun e=>hbad (by simpa using e.2))] at a;have HQ:=Au y w6 (R ⟨hsz,hbad⟩);go_wp2_with fail;refine(HQ).mono ?_;rintro e w7 ⟨rfl,c⟩;have Ht:=ar wB c;have H7:=H6.a bJ c;obtain⟨x0,x1,x2,x3,x4,x5,x6⟩:=HC _ _ _ H7;obtain⟨v0,v1,v2,v3,v4⟩:=HU _ _ _ H7;obtain⟨L,KS⟩:∃b,(decide ((0:Int)<=(nb:Int)+60)&&decide ((nb:Int)+60<=100000-(s.a.length:Int)))=b:=⟨_,rfl⟩;have eR:L=F<->100000<s.a.length+(nb+60):=by
        rw[<-KS,qu,cz,cz];omega
       have WC:=zg H7.b ((nb:Int)+60);rw[KS] at WC;go_wp2_with fail;refine WC.mono ?_;rintro e wq ⟨rfl,c⟩;rw[c];cases L with
       | false =>
         rw[if_pos (eR.1 rfl)] at a;go_wp2_with fail;refine(iI 507 507 rfl _).mono ?_;rintro e G n;obtain⟨f,z,B,C,d⟩:=H7.d n;unfold bZ at d;subst d;go_wp2;exact⟨rfl,by rw[a.o];exact f.o⟩
       | true =>
         rw[if_neg (fun e=>by have:=eR.2 e;cases this)] at a;go_wp2_with fail;refine(gv 507 U 0 0 _).mono ?_;rintro e wq ⟨rfl,c⟩;rw[c];have Qn:=yQ H7.b vX.o u.b (un:Int) bo nb gF body (Ea _ Ht) hb (by omega);have F7:(cL s u.b (un:Int) body).2≠0->(cL s u.b (un:Int) body).1=s:=fun e=>by unfold cL at e ⊢;exact qh e
         have HOa:aN (cL s u.b (un:Int) body).1:=vX.o.a _ _ _;go_wp2_with fail;refine Qn.mono ?_;rintro e w20 ⟨rfl,N,hT⟩;have D:=H7.f N hT;generalize cL s u.b (un:Int) body=ra at *;obtain⟨sa,ca⟩:=ra;simp only at a F7 D HOa ⊢;obtain⟨x0,x1,x2,x3,x4,x5,x6⟩:=HC _ _ _ D;obtain⟨v0,v1,v2,v3,v4⟩:=HU _ _ _ D;by_cases j:ca=0
         . subst j;rw[if_neg (by simp)] at a;go_wp2_with fail;refine(yO _).mono ?_;rintro e wq ⟨rfl,c⟩;rw[c];rw[if_pos (T.2 ⟨hy0,hsz⟩)] at a;have t1:(u.c==-1)=true:=by rw[cM];omega
           have HDc:=LF D.b HOa u.b y;go_wp2_with fail;refine HDc.mono ?_;rintro e w21 ⟨rfl,N,hT⟩;have H21:=D.f N hT;generalize rs sa u.b y=rd at *;obtain⟨sd,cd⟩:=rd;simp only at a H21 ⊢;obtain⟨x0,x1,x2,x3,x4,x5,x6⟩:=HC _ _ _ H21;obtain⟨v0,v1,v2,v3,v4⟩:=HU _ _ _ H21;have Lf:=rM H21.b;go_wp2_with fail;refine Lf.mono ?_;rintro e w22 ⟨rfl,wz,yX⟩;have H:=H21.ku wz yX;have Bu:=ud dq (un+nb) ((un:Int)+nb) (by omega) (by omega) w22 (H.y Lp.o);unfold dq at Bu;generalize fb (un+nb)=db at *;go_wp2_with fail;refine Bu.mono ?_;rintro e q ⟨rfl,c⟩;have r:=(H.a bJ c).a bJ ((aq _ q).alloc (ak _) (K #[V dq,V db] 128));have NR:=oG 204 204 rfl [(dq,db)] (M ⟨q.heap.size,0,U⟩) 1 1 _ (bx.d q #[V dq,V db] 1 128 (0,0)) rfl (by decide);unfold dq at NR r;go_wp2_with fail;refine NR.mono ?_;rintro e G ⟨z,B,C,rfl,mK,jY,qM⟩;obtain⟨⟨z0,z1,z2,y0,y1,y2⟩,f⟩:=r.e bJ (i:=2) rfl (b:=w.heap.size+2) (by first | rfl | omega) (st:=204) (mY:=204) rfl mK (ce (ej _ _) r.c) jY qM;go_wp2;generalize (((G.setCell ⟨w.heap.size+2,0,U⟩ (I J 204)).setCell ⟨w.heap.size+2,1,U⟩ (Z z C B)).setCell ⟨w.heap.size+2,2,U⟩ (Z U 0 0))=wf at *;obtain⟨q0,q1,q2,q3⟩:=f.o;refine aR (v:=.agg #[I J 204,Z z C B,Z U 0 0]) (by simp[results,results123,go_sem,q0,q1,q2]) rfl ?_;rw[a.o];exact pu.a q3
         . rw[if_pos j] at a;have hsa:=F7 j;subst hsa;have HNd:=zc ca j w20;clear j F7;go_wp2_with fail;refine(HNd).mono ?_;rintro e G n;obtain⟨f,z,B,C,d⟩:=D.d n;unfold bZ at d;subst d;clear n;go_wp2;exact⟨rfl,by rw[a.o];exact f.o⟩
   . have hsz0:0<=u.c:=by omega
     by_cases hne:y=u.c
     . rw[if_neg (fun e=>e.elim (fun e=>by cases e) (fun e=>e.2.2 hne)),if_neg (fun e=>hsz (T.1 e.1).2)] at a;have HQ:=Au y w6 (A ⟨hsz0,hne⟩);clear hne;go_wp2_with fail;refine(HQ).mono ?_;rintro e w7 ⟨rfl,c⟩;have Ht:=ar wB c;have H7:=H6.a bJ c;clear c H6 wB x0 x1 x2 x3 x4 x5 x6 v0 v1 v2 v3 v4;obtain⟨x0,x1,x2,x3,x4,x5,x6⟩:=HC _ _ _ H7;obtain⟨v0,v1,v2,v3,v4⟩:=HU _ _ _ H7;clear HQ;obtain⟨L,KS⟩:∃b,(decide ((0:Int)<=(nb:Int)+60)&&decide ((nb:Int)+60<=100000-(s.a.length:Int)))=b:=⟨_,rfl⟩;have eR:L=F<->100000<s.a.length+(nb+60):=by
        rw[<-KS,qu,cz,cz];omega
       have WC:=zg H7.b ((nb:Int)+60);rw[KS] at WC;clear KS;go_wp2_with fail;refine WC.mono ?_;rintro e wq ⟨rfl,c⟩;rw[c];clear c;clear WC;cases L with
       | false =>
         rw[if_pos (eR.1 rfl)] at a;go_wp2_with fail;refine(iI 507 507 rfl _).mono ?_;rintro e G n;obtain⟨f,z,B,C,d⟩:=H7.d n;unfold bZ at d;subst d;clear n;go_wp2;exact⟨rfl,by rw[a.o];exact f.o⟩
       | true =>
         rw[if_neg (fun e=>by have:=eR.2 e;cases this)] at a;clear eR;go_wp2_with fail;refine(gv 507 U 0 0 _).mono ?_;rintro e wq ⟨rfl,c⟩;rw[c];clear c;have Qn:=yQ H7.b vX.o u.b (un:Int) bo nb gF body (Ea _ Ht) hb (by omega);have F7:(cL s u.b (un:Int) body).2≠0->(cL s u.b (un:Int) body).1=s:=fun e=>by unfold cL at e ⊢;exact qh e
         have HOa:aN (cL s u.b (un:Int) body).1:=vX.o.a _ _ _;go_wp2_with fail;refine Qn.mono ?_;rintro e w20 ⟨rfl,N,hT⟩;have D:=H7.f N hT;clear N hT Qn H7 Ht x0 x1 x2 x3 x4 x5 x6 v0 v1 v2 v3 v4;generalize cL s u.b (un:Int) body=ra at *;obtain⟨sa,ca⟩:=ra;simp only at a F7 D HOa ⊢;obtain⟨x0,x1,x2,x3,x4,x5,x6⟩:=HC _ _ _ D;obtain⟨v0,v1,v2,v3,v4⟩:=HU _ _ _ D;by_cases j:ca=0
         . subst j;rw[if_neg (by simp)] at a;clear F7;go_wp2_with fail;refine(yO _).mono ?_;rintro e wq ⟨rfl,c⟩;rw[c];clear c;have t1:(u.c==-1)=F:=by rw[aO];omega
           rw[if_neg (fun e=>by have:=(T.1 e).2;omega)] at a;have Lf:=rM D.b;go_wp2_with fail;refine Lf.mono ?_;rintro e w22 ⟨rfl,wz,yX⟩;have H:=D.ku wz yX;have Bu:=ud dq (un+nb) ((un:Int)+nb) (by omega) (by omega) w22 (H.y Lp.o);unfold dq at Bu;generalize fb (un+nb)=db at *;clear wz yX Lf D x0 x1 x2 x3 x4 x5 x6 v0 v1 v2 v3 v4;go_wp2_with fail;refine Bu.mono ?_;rintro e q ⟨rfl,c⟩;have r:=(H.a bJ c).a bJ ((aq _ q).alloc (ak _) (K #[V dq,V db] 128));have NR:=oG 204 204 rfl [(dq,db)] (M ⟨q.heap.size,0,U⟩) 1 1 _ (bx.d q #[V dq,V db] 1 128 (0,0)) rfl (by decide);unfold dq at NR r;clear c Bu H;go_wp2_with fail;refine NR.mono ?_;rintro e G ⟨z,B,C,rfl,mK,jY,qM⟩;obtain⟨⟨z0,z1,z2,y0,y1,y2⟩,f⟩:=r.e bJ (i:=2) rfl (b:=w.heap.size+2) (by first | rfl | omega) (st:=204) (mY:=204) rfl mK (ce (ej _ _) r.c) jY qM;clear mK jY qM;go_wp2;generalize (((G.setCell ⟨w.heap.size+2,0,U⟩ (I J 204)).setCell ⟨w.heap.size+2,1,U⟩ (Z z C B)).setCell ⟨w.heap.size+2,2,U⟩ (Z U 0 0))=wf at *;obtain⟨q0,q1,q2,q3⟩:=f.o;refine aR (v:=.agg #[I J 204,Z z C B,Z U 0 0]) (by simp[results,results123,go_sem,q0,q1,q2]) rfl ?_;rw[a.o];exact pu.a q3
         . rw[if_pos j] at a;have hsa:=F7 j;subst hsa;have HNd:=zc ca j w20;clear j F7;go_wp2_with fail;refine(HNd).mono ?_;rintro e G n;obtain⟨f,z,B,C,d⟩:=D.d n;unfold bZ at d;subst d;clear n;go_wp2;exact⟨rfl,by rw[a.o];exact f.o⟩
     . rw[if_pos (R ⟨hy0,hsz0,hne⟩)] at a;have HQ:=O6 y w6 hsz0 hne;clear hne;go_wp2_with fail;refine(HQ).mono ?_;rintro e G n;obtain⟨f,z,B,C,d⟩:=H6.d n;unfold bZ at d;subst d;clear n;go_wp2;exact⟨rfl,by rw[a.o];exact f.o⟩
end
def nr:nO:=fun _ _ _ _=>True
theorem im:oR nr:=⟨fun _ _ _=>trivial,fun _ _=>trivial⟩
def ju:Nat->Prop:=fun _=>False
theorem uy.a {w w':X}{g:Nat}{s:av}{r:jk}{e:Ending}(h:uy nr ju w g (s,r) e w'):vp w r e w':=by
 obtain⟨⟨b,a,n,c,d,f⟩,_,i⟩:=h;exact⟨b,a,n,c,d,f,i.below (fun _ e=>e.elim) (ak _)⟩
theorem Iz (w:X)(a:Obj):cj nr ju w 0 [a] jj (fun k=>ju k∧k<w.heap.size) (w.alloc a) :=
 (cj.G (O:=nr) (S:=ju) (g:=0) (s:=jj) im trivial).q im rfl (fun _ e=>e.1.elim) _
theorem UJ (w:X)(a b:Obj):cj nr ju w 0 [a,b] jj (fun k=>ju k∧k<w.heap.size) ((w.alloc a).alloc b):=by
 have c:(w.alloc a).heap.size=w.heap.size+1:=ch ..;exact(Iz w a).q im c (fun _ e=>e.1.elim) _
theorem Mn (w:X)(q:fu w):Calls prog 116 #[] w fun e w'=>vp w (bY 204 [(ei,cI),(nJ,nL),(ox,oz)]) e w':=by
 have s:=Iz w (K #[I J 0,Z U 0 0,Z U 0 0] 106);have c:=(aq _ w).alloc (ak _) (K #[I J 0,Z U 0 0,Z U 0 0] 106);go_enter func116,ntmps116;go_wp2_with fail;refine(nR ei cI (w.alloc (K #[I J 0,Z U 0 0,Z U 0 0] 106))).mono ?_;rintro e t ⟨rfl,a⟩;have u:=s.a im a;have d:=ar c a;have f:=ud nJ 2000 2000 rfl (by decide) t (q.a d);rw[show fb 2000=nL from by decide +kernel] at f;unfold nJ nL at f;go_wp2_with fail;refine f.mono ?_;rintro e x ⟨rfl,g⟩;have y:=u.a im g;go_wp2_with fail;refine(nR ox oz x).mono ?_;rintro e j ⟨rfl,k⟩;have l:=(y.a im k).a im ((aq _ j).alloc (ak _) (K #[V ei,V cI,V nJ,V nL,V ox,V oz] 128));unfold ei cI nJ nL ox oz at l;go_wp2_with fail;refine(oG 204 204 rfl [(ei,cI),(nJ,nL),(ox,oz)] (M ⟨j.heap.size,0,U⟩) 3 3 _ (bx.d j #[V ei,V cI,V nJ,V nL,V ox,V oz] 3 128 (0,0)) rfl (by decide)).mono ?_;rintro e z ⟨m,n,p,rfl,B,C,D⟩;obtain⟨⟨T,W,z2,y0,y1,y2⟩,G⟩:=l.e im (i:=0) rfl (b:=w.heap.size) (by first | rfl | omega) (st:=204) (mY:=204) rfl B (ce (ej _ _) l.c) C D;go_wp2;generalize (((z.setCell ⟨w.heap.size,0,U⟩ (I J 204)).setCell ⟨w.heap.size,1,U⟩ (Z m p n)).setCell ⟨w.heap.size,2,U⟩ (Z U 0 0))=wf at *;obtain⟨H,L,N,S⟩:=G.o;refine aR (v:=.agg #[I J 204,Z m p n,Z U 0 0]) (by simp[results,results116,go_sem,H,L,N]) rfl ?_;exact uy.a (r:=bY 204 [(ei,cI),(nJ,nL),(ox,oz)]) S
theorem IV (u:aL)(uo:ai)(un gT:Nat)(hun:u.a.length=un)(hs0:-1<=u.c)(hs1:u.c<=2000)(XK:un<=2000)(w:X)(hP:fu w):
 Calls prog 122 #[.agg #[I J u.b,I J u.c,V u.d,Z uo un gT,I J u.e]] w fun e w'=>vp w (jS u) e w':=by
 have T2:=UJ w (K #[I J u.b,I J u.c,V u.d,Z uo un gT,I J u.e] 92) (K #[I J 0,Z U 0 0,Z U 0 0] 106);have HC:∀W s' S',cj nr ju w 0 [K #[I J u.b,I J u.c,V u.d,Z uo un gT,I J u.e] 92 (0,0),K #[I J 0,Z U 0 0,Z U 0 0] 106 (0,0)] s' S' W->W.cell? ⟨w.heap.size,1,U⟩=M (I J u.c)∧W.cell? ⟨w.heap.size,2,U⟩=M (V u.d)∧W.cell? ⟨w.heap.size,3,U⟩=M (Z uo un gT):=fun W s' S' j=>by
  have r:=j.B 0 rfl;exact⟨am W _ 1 _ _ _ r,am W _ 2 _ _ _ r,am W _ 3 _ _ _ r⟩
 obtain⟨x1,x2,x3⟩:=HC _ _ _ T2;have HB2:Below w.heap.size w ((w.alloc (K #[I J u.b,I J u.c,V u.d,Z uo un gT,I J u.e] 92)).alloc (K #[I J 0,Z U 0 0,Z U 0 0] 106)):=ar ((aq _ w).alloc (ak _) _) ((aq _ _).alloc (ak _) _);have Lp:=aa hP;have HUn:=aa hun;obtain⟨z,hcnt,l⟩:∃z:ag,Hid (∀W,Below w.heap.size w W->Calls prog 165 #[V gO,I J u.c] W fun e w'=>e=Y (.agg #[V gO,V z])∧Below W.heap.size W w')∧(0<=u.c->z=fb u.c.toNat):=by
  by_cases h0:0<=u.c
  . exact⟨_,fun W j=>ud gO u.c.toNat u.c (by omega) (by omega) W (hP.a j),fun _=>rfl⟩
  . have e1:u.c=-1:=by omega
    rw[e1];refine⟨⟨(Lib.itoa (-1)).toArray⟩,fun W j=>?_,fun e=>absurd e (by omega)⟩;refine EY gO _ (-1) W (fun W2 hW2=>?_);refine(Any.strconv_Itoa Tryz.lays171 (-1) (by decide) (by decide) W2 (hP.a (ar j hW2))).mono ?_;rintro e w' ⟨he,k,os,rfl⟩;exact⟨he,Lib.below_grow _ W2 (ak _) k os⟩
 have XR:=aa (hcnt.out _ HB2);unfold gO at XR;obtain⟨f,g,d⟩:∃f g:ag,(f,g)=(if u.c<0 then (gP,lv) else (gO,fb u.c.toNat)):=⟨_,_,rfl⟩;obtain⟨B,hR⟩:∃B,B=jS u:=⟨_,rfl⟩;rw[<-hR];have HD:Hid (B=bY 200 ((dq,fb un)::(f,g)::(kz,kA)::(if u.d.size=0 then [] else [(gR,u.d)]))):=by
  unfold Hid;rw[hR];unfold jS;rw[<-d,HUn.o]
 have WB:(f,g)=(if u.c<0 then (gP,lv) else (gO,fb u.c.toNat)):=d;have HSv:=aa l;go_enter func122,ntmps122;go_wp2_with fail;refine XR.o.mono ?_;rintro e C ⟨rfl,hw3⟩;have H3:=T2.a im hw3;have HB3:=ar HB2 hw3;have hb4:=(aq _ C).alloc (ak _) (K #[V gO,V z] 128);have H4:=H3.a im hb4;have kF:=ar HB3 hb4;have m:(C.alloc (K #[V gO,V z] 128)).heap[C.heap.size]? = M (K #[V gO,V z] 128 (0,0)):=bw C _;have HZ4:Hid (w.heap.size+2<=C.heap.size):=H3.c;obtain⟨x1,x2,x3⟩:=HC _ _ _ H4;unfold gO at H4 kF m;unfold gO at x1 x2 x3;go_upto_region 2 with fail
 generalize (C.alloc (K #[V ⟨#[85,112,108,111,97,100,45,76,101,110,103,116,104]⟩,V z] 128))=w4 at *;generalize C.heap.size=c at *;obtain⟨bn,hbn⟩:∃b,(u.c==-1)=b:=⟨_,rfl⟩;have D:Hid (bn=true<->u.c<0):=by
  unfold Hid;rw[<-hbn,cM];omega
 go_upto_if 10 with fail
 go_cut [11] (fun _ G=>cj nr ju w 0 [K #[I J u.b,I J u.c,V u.d,Z uo un gT,I J u.e] 92 (0,0),K #[I J 0,Z U 0 0,Z U 0 0] 106 (0,0)] jj (fun k=>ju k∧k<w.heap.size) G∧Below w.heap.size w G∧G.heap[c]? = M (K #[V f,V g] 128 (0,0)))
 case first =>
  cases bn with
  | true =>
    have d:=WB;rw[if_pos (D.o.1 rfl)] at d;injection d with H L;subst H;subst L;go_wp2_with fail;refine(nR gP lv w4).mono ?_;rintro e y ⟨rfl,Ee⟩;have qd:=(Ee.block c (bH.1 m).1).trans m;have c0:=am y _ 0 _ _ _ qd;have c1:=am y _ 1 _ _ _ qd
    have y0:=aD y _ 0 _ _ qd;have y1:=aD y _ 1 _ _ qd
    simp at c0 c1;have hTk:=gX c [V gP,V lv] 0 y;have HX:cj nr ju w 0 [K #[I J u.b,I J u.c,V u.d,Z uo un gT,I J u.e] 92 (0,0),K #[I J 0,Z U 0 0,Z U 0 0] 106 (0,0)] jj (fun k=>ju k∧k<w.heap.size) ((y.setCell ⟨c,0,U⟩ (V gP)).setCell ⟨c,1,U⟩ (V lv))∧Below w.heap.size w ((y.setCell ⟨c,0,U⟩ (V gP)).setCell ⟨c,1,U⟩ (V lv))∧((y.setCell ⟨c,0,U⟩ (V gP)).setCell ⟨c,1,U⟩ (V lv)).heap[c]? = M (K #[V gP,V lv] 128 (0,0)):=by
     have hz:=HZ4.o;have hb:=ar kF Ee;exact⟨(H4.a im Ee).lH im hTk hz (fun e=>e.1.elim),(hb.setCell (p:=⟨c,0,U⟩) (by show w.heap.size<=c;omega) _).setCell (p:=⟨c,1,U⟩) (by show w.heap.size<=c;omega) _,aQ _ _ 1 _ _ (V lv) (aQ _ _ 0 _ _ (V gP) qd)⟩
    unfold gP lv at HX;go_wp2;go_meet;exact HX
  | false =>
    have d:=WB;rw[if_neg (fun e=>by have:=D.o.2 e;cases this)] at d;injection d with H L;have l:=HSv.o (by
     rcases Int.lt_or_le u.c 0 with e | e
     . have:=D.o.2 e;cases this
     . exact e)
    rw[<-L] at l;subst H;subst l;go_wp2;go_meet;exact⟨H4,kF,m⟩
 case rest =>
  obtain⟨hT,hB,hr⟩:=hcut;have HT:=hT;have HB:=aa hB;have HR:=aa hr
  have hkl:=(bH.1 hr).1;have QG:∀W,Below w.heap.size w W->Calls prog 165 #[V dq,I J (un:Int)] W fun e w'=>e=Y (.agg #[V dq,V (fb un)])∧Below W.heap.size W w':=fun W j=>ud dq un un rfl (by omega) W (Lp.o.a j);have HFc:∀W,Calls prog 119 #[V kz,V kA] W fun e w'=>e=Y (.agg #[V kz,V kA])∧Below W.heap.size W w':=fun W=>nR kz kA W;have N:∀W,Below wc.heap.size wc W->W.cell? ⟨w.heap.size,3,U⟩=M (Z uo un gT)∧W.cell? ⟨c,0,U⟩=M (V f)∧W.cell? ⟨c,1,U⟩=M (V g):=fun W j=>by
   have hr':=(j.block c hkl).trans HR.o;exact⟨(HC _ _ _ (HT.a im j)).2.2,am W _ 0 _ _ _ hr',am W _ 1 _ _ _ hr'⟩
  generalize fb un=n at *;have QZ:∀W,Below wc.heap.size wc W->aG (W.alloc (K #[V dq,V n,V f,V g,V kz,V kA] 128)) (w.heap.size+2) 128 2 (M ⟨W.heap.size,0,U⟩) 3 3 (aI [(dq,n),(f,g),(kz,kA)])∧cj nr ju w 0 [K #[I J u.b,I J u.c,V u.d,Z uo un gT,I J u.e] 92 (0,0),K #[I J 0,Z U 0 0,Z U 0 0] 106 (0,0)] jj (fun k=>ju k∧k<w.heap.size) (W.alloc (K #[V dq,V n,V f,V g,V kz,V kA] 128))∧Below w.heap.size w (W.alloc (K #[V dq,V n,V f,V g,V kz,V kA] 128)):=fun W j=>by
   have h1:=HT.a im j;have s:=(aq _ W).alloc (ak _) (K #[V dq,V n,V f,V g,V kz,V kA] 128);exact⟨tN W #[V dq,V n,V f,V g,V kz,V kA] 3 h1.c (by decide) rfl,h1.a im s,ar (ar HB.o j) s⟩
  unfold dq at QG;unfold kz kA at HFc;have s0:=N _ (aq _ _);have S:Below wc.heap.size wc wc.drew:=bA _ _;go_upto_region 4 with fail
  go_cut [4] (fun v4 G=>∃(ao:ai) (t:Nat),v4=Z ao 3 t∧aG G (w.heap.size+2) 128 2 ao t 3 (aI [(dq,n),(f,g),(kz,kA)])∧cj nr ju w 0 [K #[I J u.b,I J u.c,V u.d,Z uo un gT,I J u.e] 92 (0,0),K #[I J 0,Z U 0 0,Z U 0 0] 106 (0,0)] jj (fun k=>ju k∧k<w.heap.size) G∧Below w.heap.size w G)
  case first =>
   go_region_held3 (fun W=>W.cell? ⟨w.heap.size,3,U⟩=M (Z uo un gT)∧W.cell? ⟨c,0,U⟩=M (V f)∧W.cell? ⟨c,1,U⟩=M (V g)) (go_keep) (first
    | (go_at_call 165;refine(QG _ (ar HB.o (by first | with_reducible exact T.o | with_reducible exact S))).mono ?_;rintro e wC ⟨rfl,hC⟩;have hbC:=ar (by first | with_reducible exact T.o | with_reducible exact S) hC;have HbC:=aa hbC;obtain⟨a0,a1,a2⟩:=N _ hbC;clear hC hbC)
    | (go_at_call 119;refine(HFc _).mono ?_;rintro e wF ⟨rfl,hF⟩;have hbF:=ar (by first | with_reducible exact HbC.o | with_reducible exact S) hF;have T:=aa hbF;obtain⟨a0,a1,a2⟩:=N _ hbF;clear hF hbF))
   all_goals
    go_wp2;go_meet;first
     | exact⟨_,_,rfl,QZ _ T.o⟩
     | exact⟨_,_,rfl,QZ _ HbC.o⟩
  case rest =>
   obtain⟨ao,t,rfl,hO,hT,hB⟩:=hcut;have H5:=hT;have oP:=aa hB;have AL:=aa hO
   have x1:=HC _ _ _ H5;obtain⟨bm,hbm⟩:∃b,(u.d.toList==([]:ae))=b:=⟨_,rfl⟩;have eM:u.d.size=0<->bm=true:=by
    rw[<-hbm,cM,Lib.toList_data];rw[<-List.length_eq_zero_iff,cy];exact Iff.rfl
   cases bm with
   | true =>
     rw[if_pos (eM.2 rfl)] at HD;go_wp2_with fail;refine(oG 200 200 rfl [(dq,n),(f,g),(kz,kA)] ao t 3 wc AL.o.a rfl (by decide)).mono ?_;rintro e w9 ⟨jI,iB,n9,rfl,mK,jY,qM⟩;obtain⟨⟨z0,z1,z2,y0,y1,y2⟩,HE⟩:=H5.e im (i:=1) rfl (b:=w.heap.size+1) (by first | rfl | omega) (st:=200) (mY:=200) rfl mK (ce (ej _ _) H5.c) jY qM;go_wp2;generalize (((w9.setCell ⟨w.heap.size+1,0,U⟩ (I J 200)).setCell ⟨w.heap.size+1,1,U⟩ (Z jI n9 iB)).setCell ⟨w.heap.size+1,2,U⟩ (Z U 0 0))=wf at *;obtain⟨q0,q1,q2,q3⟩:=HE.o;refine aR (v:=.agg #[I J 200,Z jI n9 iB,Z U 0 0]) (by simp[results,results122,go_sem,q0,q1,q2]) rfl ?_;rw[HD.o];exact uy.a q3
   | false =>
     rw[if_neg (fun e=>by have:=eM.1 e;cases this)] at HD;obtain⟨i0,hi0,hz0,hz1,hz2⟩:=info_parts pv;have Hi:=hi0;have kT:=aa hz0;have kL:=aa hz1;have kU:=aa hz2
     go_wp2_with fail;refine(nR gR u.d wc).mono ?_;rintro e w6 ⟨rfl,hw6⟩;have s:=(aq _ w6).alloc (ak _) (K #[V gR,V u.d] 128);have H6:=(H5.a im hw6).a im s;have Jm:=(AL.o.r hw6).q (K #[V gR,V u.d] 128);have HZ6:w.heap.size+2<=(w6.alloc (K #[V gR,V u.d] 128)).heap.size:=H6.c;have HP6:∀(x:ai) (He:Nat) (w7:X),(w6.alloc (K #[V gR,V u.d] 128)).grownBy w7 (au ao)->cj nr ju w 0 [K #[I J u.b,I J u.c,V u.d,Z uo un gT,I J u.e] 92 (0,0),K #[I J 0,Z U 0 0,Z U 0 0] 106 (0,0)] jj (fun k=>ju k∧k<w.heap.size) w7:=fun x He w7 hG=>by
      cases ao with
      | none=>exact H6.a im ((aq _ _).grown hG (ak _) (fun q e=>by cases e))
      | some a =>
        have hab:=(Jm.d a rfl).1;exact H6.lH im (b:=a.block) (al.q hG (fun k e=>by injection e with e;exact e.symm)) hab (fun e=>e.1.elim)
     unfold gR at H6 Jm HZ6 HP6;go_wp2_with (at_builtin;refine fE rfl (.tmp 22) (.tmp 26) 80 rfl (w.heap.size+2) 128 i0 (.agg #[V ⟨#[]⟩,V ⟨#[]⟩]) 2 32 underlying80 Hi kT.o kL.o kU.o rfl (by decide) rfl Jm rfl (bx.d w6 _ 1 _ _) rfl (xS _ _) (by decide) (by decide) HZ6 ?_;intro x He w7 hO7 hG7 _;have H7:=aa (HP6 x He w7 hG7);have NR:=aa (oG 200 200 rfl [(dq,n),(f,g),(kz,kA),(gR,u.d)] x He 4 w7 hO7.a rfl (by decide));clear hO7 hG7 HP6 Jm H6 HZ6)
     refine NR.o.mono ?_;rintro e w9 ⟨jI,iB,n9,rfl,mK,jY,qM⟩;obtain⟨⟨z0,z1,z2,y0,y1,y2⟩,HE⟩:=H7.o.e im (i:=1) rfl (b:=w.heap.size+1) (by first | rfl | omega) (st:=200) (mY:=200) rfl mK (ce (ej _ _) H7.o.c) jY qM;go_wp2;generalize (((w9.setCell ⟨w.heap.size+1,0,U⟩ (I J 200)).setCell ⟨w.heap.size+1,1,U⟩ (Z jI n9 iB)).setCell ⟨w.heap.size+1,2,U⟩ (Z U 0 0))=wf at *;obtain⟨q0,q1,q2,q3⟩:=HE.o;refine aR (v:=.agg #[I J 200,Z jI n9 iB,Z U 0 0]) (by simp[results,results122,go_sem,q0,q1,q2]) rfl ?_;rw[HD.o];exact uy.a q3
section
variable {g:Nat} {m t:ag} {mi ln:Int} {l:aC} {fo:ai} {gG nf:Nat} {bo:ai} {gF nb:Nat} {w w0:X} {S:Nat->Prop} {s:av}
theorem M2 (p:ka w0 w S)(h:aY w S g s)(ok:aN s)(hF:gz w l fo gG nf):
 Calls prog 120 #[.agg #[Q (M ⟨g,0,U⟩),V m,V t,I J mi,Z fo nf gG,I J ln,Z bo nb gF]] w fun e w'=>pu S w g (mM s m l) e w':=by
 have L:cj aY S w g [K #[Q (M ⟨g,0,U⟩),V m,V t,I J mi,Z fo nf gG,I J ln,Z bo nb gF] 145 (0,0),K #[I J 0,Z U 0 0,Z U 0 0] 106 (0,0)] s (fun k=>S k∧k<w.heap.size) ((w.alloc (K #[Q (M ⟨g,0,U⟩),V m,V t,I J mi,Z fo nf gG,I J ln,Z bo nb gF] 145)).alloc (K #[I J 0,Z U 0 0,Z U 0 0] 106)):=yi h _;have u:Below w.heap.size w ((w.alloc (K #[Q (M ⟨g,0,U⟩),V m,V t,I J mi,Z fo nf gG,I J ln,Z bo nb gF] 145)).alloc (K #[I J 0,Z U 0 0,Z U 0 0] 106)):=ar ((aq _ w).alloc (ak _) _) ((aq _ _).alloc (ak _) _);have HC:∀W s' S',cj aY S w g [K #[Q (M ⟨g,0,U⟩),V m,V t,I J mi,Z fo nf gG,I J ln,Z bo nb gF] 145 (0,0),K #[I J 0,Z U 0 0,Z U 0 0] 106 (0,0)] s' S' W->W.cell? ⟨w.heap.size,0,U⟩=M (Q (M ⟨g,0,U⟩))∧W.cell? ⟨w.heap.size,1,U⟩=M (V m)∧W.cell? ⟨w.heap.size,2,U⟩=M (V t)∧W.cell? ⟨w.heap.size,3,U⟩=M (I J mi)∧W.cell? ⟨w.heap.size,4,U⟩=M (Z fo nf gG)∧W.cell? ⟨w.heap.size,5,U⟩=M (I J ln)∧W.cell? ⟨w.heap.size,6,U⟩=M (Z bo nb gF):=fun W s' S' hW=>hW.jK;obtain⟨x0,x1,x2,x3,x4,x5,x6⟩:=HC _ _ _ L;have N:=hF;have vX:=aa ok;have Lp:=aa p
 obtain⟨T,hR⟩:∃T,T=mM s m l:=⟨_,rfl⟩;rw[<-hR];unfold mM at hR;have c:=aa hR;obtain⟨bp,hbp⟩:∃b,(m.toList==([80,79,83,84]:ae))=b:=⟨_,rfl⟩;have eP:m=vW<->bp=true:=by rw[<-hbp];exact ow m vW _ rfl
 go_enter func120,ntmps120;cases bp with
 | false =>
   rw[if_pos (fun e=>by have:=eP.1 e;cases this)] at c;go_wp2_with fail;refine(iI 405 405 rfl _).mono ?_;rintro e D j;obtain⟨f,x,y,z,d⟩:=L.d j;unfold bZ at d;subst d;go_wp2;exact⟨rfl,by rw[c.o];exact f.o⟩
 | true =>
   rw[if_neg (fun e=>e (eP.2 rfl))] at c;go_wp2_with fail;refine(gv 405 U 0 0 _).mono ?_;rintro e wq ⟨rfl,hw⟩;rw[hw];cases q:(dl (bj (aT gD l))).2 with
   | false =>
     rw[if_pos q] at c;have Lh:=RJ (g:=g) (m:=m) (t:=t) (mi:=mi) (ln:=ln) (bo:=bo) (gF:=gF) (nb:=nb) (N.a u) q;go_wp2_with fail;refine(Lh).mono ?_;rintro e D j;obtain⟨f,x,y,z,d⟩:=L.d j;unfold bZ at d;subst d;go_wp2;exact⟨rfl,by rw[c.o];exact f.o⟩
   | true =>
     rw[if_neg (by rw[q];simp)] at c;obtain⟨hsz1,hsz2⟩:=RK (g:=g) (m:=m) (t:=t) (mi:=mi) (ln:=ln) (bo:=bo) (gF:=gF) (nb:=nb) (N.a u) q;by_cases a:tA l
     . have Lh:=aa (hsz1 a);unfold tA at a;rw[if_pos a] at c;go_wp2_with fail;refine(Lh).mono ?_;rintro e D j;obtain⟨f,x,y,z,d⟩:=L.d j;unfold bZ at d;subst d;go_wp2;exact⟨rfl,by rw[c.o];exact f.o⟩
     . have Lh:=aa (hsz2 a);unfold tA at a;rw[if_neg a] at c;generalize (dl (bj (aT gD l))).1=n at *;go_wp2_with fail;refine Lh.mono ?_;rintro e w3 ⟨rfl,hw3⟩;have B:=ar u hw3;have H3:=L.a bJ hw3;obtain⟨x0,x1,x2,x3,x4,x5,x6⟩:=HC _ _ _ H3;have hzm:=N.d rA;generalize hvm:bj (aT rA l)=rm at *;obtain⟨G,cm⟩:=rm;simp only at hzm c;by_cases C:cm=9
       . subst C;rw[if_pos rfl] at c;have H:=rQ (g:=g) (m:=m) (t:=t) (mi:=mi) (ln:=ln) (bo:=bo) (gF:=gF) (nb:=nb) gR (by decide) (N.a B) (by rw[Ie];exact hvm);unfold gR at H;go_wp2_with fail;refine(H).mono ?_;rintro e D j;obtain⟨f,x,y,z,d⟩:=H3.d j;unfold bZ at d;subst d;go_wp2;exact⟨rfl,by rw[c.o];exact f.o⟩
       . rw[if_neg C] at c;have H:=rO (g:=g) (m:=m) (t:=t) (mi:=mi) (ln:=ln) (bo:=bo) (gF:=gF) (nb:=nb) gR (by decide) (N.a B) (by rw[Ie];exact hvm) C;unfold gR at H;generalize decide (cm=0)=cb at *;have hzz:(gN G).size<=1000000:=by rw[Hh];omega
         rw[show(⟨G.toArray⟩:ag)=gN G from rfl] at H;have F7:(cx s n (gN G)).2≠0->(cx s n (gN G)).1=s:=fun e=>by unfold cx at e ⊢;exact qh e
         generalize gN G=mb at *;go_wp2_with fail;refine H.mono ?_;rintro e w4 ⟨rfl,hw4⟩;have kF:=ar B hw4;have H4:=H3.a bJ hw4;obtain⟨x0,x1,x2,x3,x4,x5,x6⟩:=HC _ _ _ H4;have Q5:=CO H4.b vX.o n mb hzz;go_wp2_with fail;refine Q5.mono ?_;rintro e w5 ⟨rfl,hat,hT⟩;have H5:=H4.f hat hT;generalize cx s n mb=ra at *;obtain⟨sa,ca⟩:=ra;simp only at c F7 H5 ⊢;obtain⟨x0,x1,x2,x3,x4,x5,x6⟩:=HC _ _ _ H5;by_cases r:ca=0
         . subst r;rw[if_neg (by simp)] at c;have alu:=vX.o.h.c;have alv:=vX.o.j;have VA:nG s 0=s.h.a+1:=by unfold nG;rw[if_pos rfl]
           rw[VA];have HIt:∀W,fu W->Calls prog 149 #[I J (s.h.a+1)] W fun e w'=>e=Y (V (fb (s.h.a+1).toNat))∧Below W.heap.size W w':=fun W hW=>by
            have:=qE (s.h.a+1).toNat (by omega) W hW;rw[show(((s.h.a+1).toNat:Nat):Int)=s.h.a+1 from by omega] at this;exact this
           have hdz:(fb (s.h.a+1).toNat).size<=9:=by
            show(ba 8 _).toArray.size<=9;rw[cN];have:=jq 8 (s.h.a+1).toNat;omega
           generalize fb (s.h.a+1).toNat=db at *;generalize s.h.a+1=lid at *;go_wp2_with fail;refine(yO _).mono ?_;rintro e wq ⟨rfl,hw⟩;rw[hw];have Lf:=rM H5.b;go_wp2_with fail;refine Lf.mono ?_;rintro e w6 ⟨rfl,wz,yX⟩;have H6:=H5.ku wz yX;have HI6:=HIt w6 (H6.y Lp.o);go_wp2_with fail;refine HI6.mono ?_;rintro e w7 ⟨rfl,hw7⟩;have H7:=H6.a bJ hw7;have Ef:=nR rz (kG++db) w7;unfold rz kG at Ef;go_wp2_with fail;refine Ef.mono ?_;rintro e w8 ⟨rfl,hw8⟩;have H8:=(H7.a bJ hw8).a bJ ((aq _ w8).alloc (ak _) (K #[V rz,V (kG++db)] 128));have NR:=oG 201 201 rfl [(rz,kG++db)] (M ⟨w8.heap.size,0,U⟩) 1 1 _ (bx.d w8 #[V rz,V (kG++db)] 1 128 (0,0)) rfl (by decide);unfold rz kG at NR H8;go_wp2_with fail;refine NR.mono ?_;rintro e D ⟨x,y,z,rfl,mK,jY,qM⟩;obtain⟨⟨z0,z1,z2,y0,y1,y2⟩,f⟩:=H8.e bJ (i:=1) rfl (b:=w.heap.size+1) (by first | rfl | omega) (st:=201) (mY:=201) rfl mK (ce (ej _ _) H8.c) jY qM;go_wp2;generalize (((D.setCell ⟨w.heap.size+1,0,U⟩ (I J 201)).setCell ⟨w.heap.size+1,1,U⟩ (Z x z y)).setCell ⟨w.heap.size+1,2,U⟩ (Z U 0 0))=wf at *;obtain⟨q0,q1,q2,q3⟩:=f.o;refine aR (v:=.agg #[I J 201,Z x z y,Z U 0 0]) (by simp[results,results120,go_sem,q0,q1,q2]) rfl ?_;rw[c.o];exact pu.a q3
         . rw[if_pos r] at c;have hsa:=F7 r;subst hsa;have HNd:=zc ca r w5;generalize nG sa ca=nn at *;go_wp2_with fail;refine(HNd).mono ?_;rintro e D j;obtain⟨f,x,y,z,d⟩:=H5.d j;unfold bZ at d;subst d;go_wp2;exact⟨rfl,by rw[c.o];exact f.o⟩
end
section
variable {g:Nat} {m t:ag} {mi ln:Int} {l:aC} {fo:ai} {gG nf:Nat} {bo:ai} {gF nb:Nat} {w w0:X} {S:Nat->Prop} {s:av}
theorem cj.jN {O:nO}{S':Nat->Prop}{bs:List Obj}{W:X}(h:cj O S w g bs s S' W)(p:ka w0 w S):ka w0 W S' :=
 ⟨p.c, p.a.trans (h.j.below (fun k e => p.b k e.1) p.a.size), fun k e => by
  have b:=p.a.size;rcases h.h k e with a | a
  . exact p.b k a.1
  . omega⟩
theorem Pg (p:ka w0 w S)(h:aY w S g s)(ok:aN s)(hF:gz w l fo gG nf)(body:ae)(hb:body.length=nb)(hB:ay w bo gF body)(hnb:nb<=100000)(ht:t.size<=100000):
 Calls prog 72 #[.agg #[Q (M ⟨g,0,U⟩),V m,V t,I J mi,Z fo nf gG,I J ln,Z bo nb gF]] w fun e w'=>pu S w g (bq s m t l body) e w':=by
 have T2:cj aY S w g [K #[Q (M ⟨g,0,U⟩),V m,V t,I J mi,Z fo nf gG,I J ln,Z bo nb gF] 145 (0,0),K #[I J 0,Z U 0 0,Z U 0 0] 106 (0,0)] s (fun k=>S k∧k<w.heap.size) ((w.alloc (K #[Q (M ⟨g,0,U⟩),V m,V t,I J mi,Z fo nf gG,I J ln,Z bo nb gF] 145)).alloc (K #[I J 0,Z U 0 0,Z U 0 0] 106)):=yi h _;have N:Hid (Below w.heap.size w ((w.alloc (K #[Q (M ⟨g,0,U⟩),V m,V t,I J mi,Z fo nf gG,I J ln,Z bo nb gF] 145)).alloc (K #[I J 0,Z U 0 0,Z U 0 0] 106))):=ar ((aq _ w).alloc (ak _) _) ((aq _ _).alloc (ak _) _);have HC:Hid (∀W s' S',cj aY S w g [K #[Q (M ⟨g,0,U⟩),V m,V t,I J mi,Z fo nf gG,I J ln,Z bo nb gF] 145 (0,0),K #[I J 0,Z U 0 0,Z U 0 0] 106 (0,0)] s' S' W->W.cell? ⟨w.heap.size,0,U⟩=M (Q (M ⟨g,0,U⟩))∧W.cell? ⟨w.heap.size,1,U⟩=M (V m)∧W.cell? ⟨w.heap.size,2,U⟩=M (V t)∧W.cell? ⟨w.heap.size,3,U⟩=M (I J mi)∧W.cell? ⟨w.heap.size,4,U⟩=M (Z fo nf gG)∧W.cell? ⟨w.heap.size,5,U⟩=M (I J ln)∧W.cell? ⟨w.heap.size,6,U⟩=M (Z bo nb gF)):=fun W s' S' hW=>hW.jK;obtain⟨x0,x1,x2,x3,x4,x5,x6⟩:=HC.o _ _ _ T2;have H2:=aa T2;have HF:=aa hF;have vX:=aa ok;have Lp:=aa p;have Ea:=aa hB;have Zx:=aa hb
 clear T2 hF ok p h hB hb;obtain⟨aah,hR⟩:∃aah,aah=bq s m t l body:=⟨_,rfl⟩;rw[<-hR];unfold bq at hR;have a:=aa hR;clear hR;obtain⟨bf,hbf⟩:∃b,(t.toList==([47,102,105,108,101,115]:ae))=b:=⟨_,rfl⟩;have eF:t=oy<->bf=true:=by rw[<-hbf];exact ow t oy _ rfl
 obtain⟨bo_,aly⟩:∃b,(m.toList==([79,80,84,73,79,78,83]:ae))=b:=⟨_,rfl⟩;have eO:m=B4<->bo_=true:=by rw[<-aly];exact ow m B4 _ rfl
 go_enter func72,ntmps72;cases bf with
 | true =>
   have HTf:=aa (eF.2 rfl);cases bo_ with
   | true =>
     rw[if_pos ⟨eF.2 rfl,eO.2 rfl⟩] at a;have HOp:Hid (Calls prog 116 #[] ((w.alloc (K #[Q (M ⟨g,0,U⟩),V m,V t,I J mi,Z fo nf gG,I J ln,Z bo nb gF] 145)).alloc (K #[I J 0,Z U 0 0,Z U 0 0] 106)) fun e w'=>∃(ao:ai) (cap k:Nat),e=Y (.agg #[I J 204,Z ao k cap,Z U 0 0])∧(bY 204 [(ei,cI),(nJ,nL),(ox,oz)]).2.length=k∧aG w' ((w.alloc (K #[Q (M ⟨g,0,U⟩),V m,V t,I J mi,Z fo nf gG,I J ln,Z bo nb gF] 145)).alloc (K #[I J 0,Z U 0 0,Z U 0 0] 106)).heap.size 128 2 ao cap k (aI (bY 204 [(ei,cI),(nJ,nL),(ox,oz)]).2)∧Below ((w.alloc (K #[Q (M ⟨g,0,U⟩),V m,V t,I J mi,Z fo nf gG,I J ln,Z bo nb gF] 145)).alloc (K #[I J 0,Z U 0 0,Z U 0 0] 106)).heap.size ((w.alloc (K #[Q (M ⟨g,0,U⟩),V m,V t,I J mi,Z fo nf gG,I J ln,Z bo nb gF] 145)).alloc (K #[I J 0,Z U 0 0,Z U 0 0] 106)) w'):=Mn _ (H2.o.y Lp.o);clear eF eO;go_wp2_with fail;refine HOp.o.mono ?_;rintro e y ⟨j,n,q,rfl,f,c,C⟩;obtain⟨⟨z0,z1,z2,y0,y1,y2⟩,d⟩:=H2.o.e bJ (i:=1) rfl (b:=w.heap.size+1) (by first | rfl | omega) (st:=204) (mY:=204) rfl f (ce (ej _ _) H2.o.c) c C;clear f c C;go_wp2;generalize (((y.setCell ⟨w.heap.size+1,0,U⟩ (I J 204)).setCell ⟨w.heap.size+1,1,U⟩ (Z j q n)).setCell ⟨w.heap.size+1,2,U⟩ (Z U 0 0))=wf at *;obtain⟨q0,q1,q2,q3⟩:=d.o;refine aR (v:=.agg #[I J 204,Z j q n,Z U 0 0]) (by simp[results,results72,go_sem,q0,q1,q2]) rfl ?_;rw[a.o];exact pu.a q3
   | false =>
     rw[if_neg (fun e=>by have:=eO.1 e.2;cases this)] at a;clear eF eO;have FQ:=HF.o.d ph;generalize TQ:bj (aT ph l)=rr at *;obtain⟨vr,cr⟩:=rr;simp only at FQ a;by_cases TR:cr=9
     . subst TR;rw[if_pos rfl] at a;have HT:=aa (rQ (g:=g) (m:=m) (t:=t) (mi:=mi) (ln:=ln) (bo:=bo) (gF:=gF) (nb:=nb) fQ (by decide) (HF.o.a N.o) (by rw[ty];exact TQ));unfold fQ at HT;clear TQ FQ;go_wp2_with fail;refine(HT.o).mono ?_;rintro e y hG;obtain⟨d,j,n,q,he⟩:=H2.o.d hG;unfold bZ at he;subst he;clear hG;go_wp2;exact⟨rfl,by rw[a.o];exact d.o⟩
     rw[if_neg TR] at a;have HT:=aa (rO (g:=g) (m:=m) (t:=t) (mi:=mi) (ln:=ln) (bo:=bo) (gF:=gF) (nb:=nb) fQ (by decide) (HF.o.a N.o) (by rw[ty];exact TQ) TR);unfold fQ at HT;clear TQ FQ TR;generalize decide (cr=0)=cb at *;obtain⟨bv,hbv⟩:∃b,((⟨vr.toArray⟩:ag).toList==([49,46,48,46,48]:ae))=b:=⟨_,rfl⟩;have eV:vr=cI.data.toList<->bv=true:=by rw[<-hbv];exact ym vr _
     generalize (⟨vr.toArray⟩:ag)=vb at *;go_wp2_with fail;refine(HT.o).mono ?_;rintro e w3 ⟨rfl,r⟩;have HB3:=aa (ar N.o r);have H3:=aa (H2.o.a bJ r);clear r H2 N x0 x1 x2 x3 x4 x5 x6;obtain⟨x0,x1,x2,x3,x4,x5,x6⟩:=HC.o _ _ _ H3.o;clear HT;have Ef:=aa (nR ei cI w3);unfold ei cI at Ef;go_wp2_with fail;refine Ef.o.mono ?_;rintro e w4 ⟨rfl,r⟩;have x:=(aq _ w4).alloc (ak _) (K #[V ei,V cI] 128);have D:=aa ((H3.o.a bJ r).a bJ x);have kF:=aa (ar (ar HB3.o r) x);have xE:=aa (wZ 412 412 rfl [(ei,cI)] (M ⟨w4.heap.size,0,U⟩) 1 1 _ (bx.d w4 #[V ei,V cI] 1 128 (0,0)) rfl (by decide));clear r x Ef H3 HB3 x0 x1 x2 x3 x4 x5 x6;cases bv with
     | false =>
       rw[if_pos (fun e=>by have:=eV.1 e;cases this)] at a;unfold ei cI at xE D;go_wp2_with fail;refine(xE.o).mono ?_;rintro e y hG;obtain⟨d,j,n,q,he⟩:=D.o.d hG;unfold bZ at he;subst he;clear hG;go_wp2;exact⟨rfl,by rw[a.o];exact d.o⟩
     | true =>
     rw[if_neg (fun e=>e (eV.2 rfl))] at a;clear eV xE;obtain⟨x0,x1,x2,x3,x4,x5,x6⟩:=HC.o _ _ _ D.o;unfold ei cI at x0 x1 x2 x3 x4 x5 x6 D kF;go_wp2_with fail;refine(gv 412 _ _ _ _).mono ?_;rintro e wq ⟨rfl,r⟩;rw[r];clear r;generalize (w4.alloc (K #[V ⟨#[84,117,115,45,86,101,114,115,105,111,110]⟩,V ⟨#[49,46,48,46,48]⟩] 128))=w5 at *;rw[if_pos HTf.o] at a;have Q5:=aa (M2 (g:=g) (m:=m) (t:=t) (mi:=mi) (ln:=ln) (bo:=bo) (gF:=gF) (nb:=nb) (D.o.jN Lp.o) D.o.b vX.o (HF.o.a kF.o));generalize mM s m l=r9 at *;obtain⟨sr,st,lr⟩:=r9;go_wp2_with fail;refine(Q5.o).mono ?_;rintro e y hE;cases hE with
     | @gave j n q _ f c G H =>
       have d:=aa (D.o.jD f c G H);unfold bZ at d ⊢;clear f c G H;go_wp2;exact⟨rfl,by rw[a.o];exact d.o⟩
     | @ret j n q _ f c G H =>
       have Jy:=D.o.f G H;replace c:=c.j (ce (ej _ _) D.o.c);have C:=aq y.heap.size y;obtain⟨⟨z0,z1,z2,y0,y1,y2⟩,d⟩:=Jy.e bJ (i:=1) rfl (b:=w.heap.size+1) (by first | rfl | omega) (st:=st) (mY:=(st:Int)) rfl f (ak _) c C;clear f c C G H Jy;go_wp2;generalize (((y.setCell ⟨w.heap.size+1,0,U⟩ (I J (st:Int))).setCell ⟨w.heap.size+1,1,U⟩ (Z j q n)).setCell ⟨w.heap.size+1,2,U⟩ (Z U 0 0))=wf at *;obtain⟨q0,q1,q2,q3⟩:=d.o;refine aR (v:=.agg #[I J (st:Int),Z j q n,Z U 0 0]) (by simp[results,results72,go_sem,q0,q1,q2]) rfl ?_;rw[a.o];exact pu.a q3
 | false =>
   have HTf:Hid (¬t=oy):=fun e=>by have:=eF.1 e;cases this
   rw[if_neg (fun e=>HTf.o e.1)] at a;clear eF eO;cases bo_ with
   | true =>
     have FQ:=HF.o.d ph;generalize TQ:bj (aT ph l)=rr at *;obtain⟨vr,cr⟩:=rr;simp only at FQ a;by_cases TR:cr=9
     . subst TR;rw[if_pos rfl] at a;have HT:=aa (rQ (g:=g) (m:=m) (t:=t) (mi:=mi) (ln:=ln) (bo:=bo) (gF:=gF) (nb:=nb) fQ (by decide) (HF.o.a N.o) (by rw[ty];exact TQ));unfold fQ at HT;clear TQ FQ;go_wp2_with fail;refine(HT.o).mono ?_;rintro e y hG;obtain⟨d,j,n,q,he⟩:=H2.o.d hG;unfold bZ at he;subst he;clear hG;go_wp2;exact⟨rfl,by rw[a.o];exact d.o⟩
     rw[if_neg TR] at a;have HT:=aa (rO (g:=g) (m:=m) (t:=t) (mi:=mi) (ln:=ln) (bo:=bo) (gF:=gF) (nb:=nb) fQ (by decide) (HF.o.a N.o) (by rw[ty];exact TQ) TR);unfold fQ at HT;clear TQ FQ TR;generalize decide (cr=0)=cb at *;obtain⟨bv,hbv⟩:∃b,((⟨vr.toArray⟩:ag).toList==([49,46,48,46,48]:ae))=b:=⟨_,rfl⟩;have eV:vr=cI.data.toList<->bv=true:=by rw[<-hbv];exact ym vr _
     generalize (⟨vr.toArray⟩:ag)=vb at *;go_wp2_with fail;refine(HT.o).mono ?_;rintro e w3 ⟨rfl,r⟩;have HB3:=aa (ar N.o r);have H3:=aa (H2.o.a bJ r);clear r H2 N x0 x1 x2 x3 x4 x5 x6;obtain⟨x0,x1,x2,x3,x4,x5,x6⟩:=HC.o _ _ _ H3.o;clear HT;have Ef:=aa (nR ei cI w3);unfold ei cI at Ef;go_wp2_with fail;refine Ef.o.mono ?_;rintro e w4 ⟨rfl,r⟩;have x:=(aq _ w4).alloc (ak _) (K #[V ei,V cI] 128);have D:=aa ((H3.o.a bJ r).a bJ x);have kF:=aa (ar (ar HB3.o r) x);have xE:=aa (wZ 412 412 rfl [(ei,cI)] (M ⟨w4.heap.size,0,U⟩) 1 1 _ (bx.d w4 #[V ei,V cI] 1 128 (0,0)) rfl (by decide));clear r x Ef H3 HB3 x0 x1 x2 x3 x4 x5 x6;cases bv with
     | false =>
       rw[if_pos (fun e=>by have:=eV.1 e;cases this)] at a;unfold ei cI at xE D;go_wp2_with fail;refine(xE.o).mono ?_;rintro e y hG;obtain⟨d,j,n,q,he⟩:=D.o.d hG;unfold bZ at he;subst he;clear hG;go_wp2;exact⟨rfl,by rw[a.o];exact d.o⟩
     | true =>
     rw[if_neg (fun e=>e (eV.2 rfl))] at a;clear eV xE;obtain⟨x0,x1,x2,x3,x4,x5,x6⟩:=HC.o _ _ _ D.o;unfold ei cI at x0 x1 x2 x3 x4 x5 x6 D kF;go_wp2_with fail;refine(gv 412 _ _ _ _).mono ?_;rintro e wq ⟨rfl,r⟩;rw[r];clear r;generalize (w4.alloc (K #[V ⟨#[84,117,115,45,86,101,114,115,105,111,110]⟩,V ⟨#[49,46,48,46,48]⟩] 128))=w5 at *;rw[if_neg HTf.o] at a;obtain⟨Rs,Rt⟩:=Dk (g:=g) (m:=m) (t:=t) (mi:=mi) (ln:=ln) (fo:=fo) (gG:=gG) (nf:=nf) (bo:=bo) (gF:=gF) (nb:=nb) D.o.b vX.o (D.o.y Lp.o) ht;cases Ru:lZ s.h t with
     | none =>
       rw[Ru] at a;simp only at a;have HUp:=aa (Rs Ru);clear Rs Rt Ru;go_wp2_with fail;refine(HUp.o).mono ?_;rintro e y hG;obtain⟨d,j,n,q,he⟩:=D.o.d hG;unfold bZ at he;subst he;clear hG;go_wp2;exact⟨rfl,by rw[a.o];exact d.o⟩
     | some u =>
     rw[Ru] at a;simp only at a;have HUp:=aa (Rt u Ru);have hmem:=(B0 Ru).1;have huo:=vX.o.h.a u hmem;have XK:=huo.a;have hs0:=huo.d;have hs1:=huo.e
     clear Rs Rt Ru hmem huo;obtain⟨L,hun⟩:∃L,u.a.length=L:=⟨_,rfl⟩;have HUn:=aa hun;rw[hun] at XK;rw[hun] at HUp;clear hun;go_wp2_with fail;refine HUp.o.mono ?_;rintro e z ⟨T,gT,rfl,r⟩;have x:=(aq _ z).alloc (ak _) (K #[I J u.b,I J u.c,V u.d,Z T L gT,I J u.e] 92);have B:=aa ((D.o.a bJ r).a bJ x);have wB:=aa (ar (ar kF.o r) x);clear r x HUp D kF x0 x1 x2 x3 x4 x5 x6;obtain⟨x0,x1,x2,x3,x4,x5,x6⟩:=HC.o _ _ _ B.o;have v0:(z.alloc (K #[I J u.b,I J u.c,V u.d,Z T L gT,I J u.e] 92)).cell? ⟨z.heap.size,0,U⟩=M (I J u.b):=World.cell?_alloc_mark z _ _ _ 0;have v1:(z.alloc (K #[I J u.b,I J u.c,V u.d,Z T L gT,I J u.e] 92)).cell? ⟨z.heap.size,1,U⟩=M (I J u.c):=World.cell?_alloc_mark z _ _ _ 1;have v2:(z.alloc (K #[I J u.b,I J u.c,V u.d,Z T L gT,I J u.e] 92)).cell? ⟨z.heap.size,2,U⟩=M (V u.d):=World.cell?_alloc_mark z _ _ _ 2;have v3:(z.alloc (K #[I J u.b,I J u.c,V u.d,Z T L gT,I J u.e] 92)).cell? ⟨z.heap.size,3,U⟩=M (Z T L gT):=World.cell?_alloc_mark z _ _ _ 3;have v4:(z.alloc (K #[I J u.b,I J u.c,V u.d,Z T L gT,I J u.e] 92)).cell? ⟨z.heap.size,4,U⟩=M (I J u.e):=World.cell?_alloc_mark z _ _ _ 4;go_upto_region 8 with fail
     generalize (z.alloc (K #[I J u.b,I J u.c,V u.d,Z T L gT,I J u.e] 92))=w7 at *;generalize z.heap.size=k6 at *;unfold qg at a;obtain⟨bh,hbh⟩:∃b,(m.toList==([72,69,65,68]:ae))=b:=⟨_,rfl⟩;have eH:m=vY<->bh=true:=by rw[<-hbh];exact ow m vY _ rfl
     cases bh with
     | true =>
       rw[if_pos (eH.2 rfl)] at a;have HDs:Hid (Calls prog 122 #[.agg #[I J u.b,I J u.c,V u.d,Z T L gT,I J u.e]] w7 fun e w'=>∃(ao:ai) (cap k:Nat),e=Y (.agg #[I J 200,Z ao k cap,Z U 0 0])∧(jS u).2.length=k∧aG w' w7.heap.size 128 2 ao cap k (aI (jS u).2)∧Below w7.heap.size w7 w'):=IV u T L gT HUn.o hs0 hs1 XK w7 (B.o.y Lp.o);have TS:Hid (jS u=(200,(jS u).2)):=by unfold Hid;rfl
       rw[TS.o] at a;clear eH TS;generalize (jS u).2=lh at *;go_wp2_with fail;refine HDs.o.mono ?_;rintro e y ⟨j,n,q,rfl,f,c,C⟩;obtain⟨⟨z0,z1,z2,y0,y1,y2⟩,d⟩:=B.o.e bJ (i:=1) rfl (b:=w.heap.size+1) (by first | rfl | omega) (st:=200) (mY:=200) rfl f (ce (ej _ _) B.o.c) c C;clear f c C;go_wp2;generalize (((y.setCell ⟨w.heap.size+1,0,U⟩ (I J 200)).setCell ⟨w.heap.size+1,1,U⟩ (Z j q n)).setCell ⟨w.heap.size+1,2,U⟩ (Z U 0 0))=wf at *;obtain⟨q0,q1,q2,q3⟩:=d.o;refine aR (v:=.agg #[I J 200,Z j q n,Z U 0 0]) (by simp[results,results72,go_sem,q0,q1,q2]) rfl ?_;rw[a.o];exact pu.a q3
     | false =>
     rw[if_neg (fun e=>by have:=eH.1 e;cases this)] at a;clear eH;obtain⟨bt,hbt⟩:∃b,(m.toList==([80,65,84,67,72]:ae))=b:=⟨_,rfl⟩;have eT:m=we<->bt=true:=by rw[<-hbt];exact ow m we _ rfl
     cases bt with
     | true =>
       rw[if_neg (fun e=>by have:=(eT.2 rfl).symm.trans e;revert this;decide),if_pos (eT.2 rfl)] at a;have HEx:=aa (Dn (g:=g) (m:=m) (t:=t) (mi:=mi) (ln:=ln) (bo:=bo) (gF:=gF) (nb:=nb) (B.o.jN Lp.o) B.o.b vX.o (HF.o.a wB.o) body Zx.o (Ea.o.a wB.o) hnb u T L gT HUn.o XK hs0);clear eT;generalize lw s u l body=r9 at *;obtain⟨sr,st,lr⟩:=r9;go_wp2_with fail;refine(HEx.o).mono ?_;rintro e y hE;cases hE with
       | @gave j n q _ f c G H =>
         have d:=aa (B.o.jD f c G H);unfold bZ at d ⊢;clear f c G H;go_wp2;exact⟨rfl,by rw[a.o];exact d.o⟩
       | @ret j n q _ f c G H =>
         have Jy:=B.o.f G H;replace c:=c.j (ce (ej _ _) B.o.c);have C:=aq y.heap.size y;obtain⟨⟨z0,z1,z2,y0,y1,y2⟩,d⟩:=Jy.e bJ (i:=1) rfl (b:=w.heap.size+1) (by first | rfl | omega) (st:=st) (mY:=(st:Int)) rfl f (ak _) c C;clear f c C G H Jy;go_wp2;generalize (((y.setCell ⟨w.heap.size+1,0,U⟩ (I J (st:Int))).setCell ⟨w.heap.size+1,1,U⟩ (Z j q n)).setCell ⟨w.heap.size+1,2,U⟩ (Z U 0 0))=wf at *;obtain⟨q0,q1,q2,q3⟩:=d.o;refine aR (v:=.agg #[I J (st:Int),Z j q n,Z U 0 0]) (by simp[results,results72,go_sem,q0,q1,q2]) rfl ?_;rw[a.o];exact pu.a q3
     | false =>
     obtain⟨bd,hbd⟩:∃b,(m.toList==([68,69,76,69,84,69]:ae))=b:=⟨_,rfl⟩;have eD:m=wa<->bd=true:=by rw[<-hbd];exact ow m wa _ rfl
     cases bd with
     | true =>
       rw[if_pos (eD.2 rfl)] at a;have HRe:=aa (Dl (g:=g) (m:=m) (t:=t) (mi:=mi) (ln:=ln) (fo:=fo) (gG:=gG) (nf:=nf) (bo:=bo) (gF:=gF) (nb:=nb) B.o.b vX.o u T L gT);clear eT eD;generalize (ey (gn s u.b).1,bY 204 [])=r9 at *;obtain⟨sr,st,lr⟩:=r9;go_wp2_with fail;refine(HRe.o).mono ?_;rintro e y hE;cases hE with
       | @gave j n q _ f c G H =>
         have d:=aa (B.o.jD f c G H);unfold bZ at d ⊢;clear f c G H;go_wp2;exact⟨rfl,by rw[a.o];exact d.o⟩
       | @ret j n q _ f c G H =>
         have Jy:=B.o.f G H;replace c:=c.j (ce (ej _ _) B.o.c);have C:=aq y.heap.size y;obtain⟨⟨z0,z1,z2,y0,y1,y2⟩,d⟩:=Jy.e bJ (i:=1) rfl (b:=w.heap.size+1) (by first | rfl | omega) (st:=st) (mY:=(st:Int)) rfl f (ak _) c C;clear f c C G H Jy;go_wp2;generalize (((y.setCell ⟨w.heap.size+1,0,U⟩ (I J (st:Int))).setCell ⟨w.heap.size+1,1,U⟩ (Z j q n)).setCell ⟨w.heap.size+1,2,U⟩ (Z U 0 0))=wf at *;obtain⟨q0,q1,q2,q3⟩:=d.o;refine aR (v:=.agg #[I J (st:Int),Z j q n,Z U 0 0]) (by simp[results,results72,go_sem,q0,q1,q2]) rfl ?_;rw[a.o];exact pu.a q3
     | false =>
     rw[if_neg (fun e=>by have:=eD.1 e;cases this),if_neg (fun e=>by have:=eT.1 e;cases this)] at a;have NR:=aa (oG 405 405 rfl [] U 0 0 w7 (bx.f w7) rfl (by decide));clear eT eD;go_wp2_with fail;refine NR.o.mono ?_;rintro e y ⟨j,n,q,rfl,f,c,C⟩;obtain⟨⟨z0,z1,z2,y0,y1,y2⟩,d⟩:=B.o.e bJ (i:=1) rfl (b:=w.heap.size+1) (by first | rfl | omega) (st:=405) (mY:=405) rfl f (ce (ej _ _) B.o.c) c C;clear f c C;go_wp2;generalize (((y.setCell ⟨w.heap.size+1,0,U⟩ (I J 405)).setCell ⟨w.heap.size+1,1,U⟩ (Z j q n)).setCell ⟨w.heap.size+1,2,U⟩ (Z U 0 0))=wf at *;obtain⟨q0,q1,q2,q3⟩:=d.o;refine aR (v:=.agg #[I J 405,Z j q n,Z U 0 0]) (by simp[results,results72,go_sem,q0,q1,q2]) rfl ?_;rw[a.o];exact pu.a q3
   | false =>
     have FQ:=HF.o.d ph;generalize TQ:bj (aT ph l)=rr at *;obtain⟨vr,cr⟩:=rr;simp only at FQ a;by_cases TR:cr=9
     . subst TR;rw[if_pos rfl] at a;have HT:=aa (rQ (g:=g) (m:=m) (t:=t) (mi:=mi) (ln:=ln) (bo:=bo) (gF:=gF) (nb:=nb) fQ (by decide) (HF.o.a N.o) (by rw[ty];exact TQ));unfold fQ at HT;clear TQ FQ;go_wp2_with fail;refine(HT.o).mono ?_;rintro e y hG;obtain⟨d,j,n,q,he⟩:=H2.o.d hG;unfold bZ at he;subst he;clear hG;go_wp2;exact⟨rfl,by rw[a.o];exact d.o⟩
     rw[if_neg TR] at a;have HT:=aa (rO (g:=g) (m:=m) (t:=t) (mi:=mi) (ln:=ln) (bo:=bo) (gF:=gF) (nb:=nb) fQ (by decide) (HF.o.a N.o) (by rw[ty];exact TQ) TR);unfold fQ at HT;clear TQ FQ TR;generalize decide (cr=0)=cb at *;obtain⟨bv,hbv⟩:∃b,((⟨vr.toArray⟩:ag).toList==([49,46,48,46,48]:ae))=b:=⟨_,rfl⟩;have eV:vr=cI.data.toList<->bv=true:=by rw[<-hbv];exact ym vr _
     generalize (⟨vr.toArray⟩:ag)=vb at *;go_wp2_with fail;refine(HT.o).mono ?_;rintro e w3 ⟨rfl,r⟩;have HB3:=aa (ar N.o r);have H3:=aa (H2.o.a bJ r);clear r H2 N x0 x1 x2 x3 x4 x5 x6;obtain⟨x0,x1,x2,x3,x4,x5,x6⟩:=HC.o _ _ _ H3.o;clear HT;have Ef:=aa (nR ei cI w3);unfold ei cI at Ef;go_wp2_with fail;refine Ef.o.mono ?_;rintro e w4 ⟨rfl,r⟩;have x:=(aq _ w4).alloc (ak _) (K #[V ei,V cI] 128);have D:=aa ((H3.o.a bJ r).a bJ x);have kF:=aa (ar (ar HB3.o r) x);have xE:=aa (wZ 412 412 rfl [(ei,cI)] (M ⟨w4.heap.size,0,U⟩) 1 1 _ (bx.d w4 #[V ei,V cI] 1 128 (0,0)) rfl (by decide));clear r x Ef H3 HB3 x0 x1 x2 x3 x4 x5 x6;cases bv with
     | false =>
       rw[if_pos (fun e=>by have:=eV.1 e;cases this)] at a;unfold ei cI at xE D;go_wp2_with fail;refine(xE.o).mono ?_;rintro e y hG;obtain⟨d,j,n,q,he⟩:=D.o.d hG;unfold bZ at he;subst he;clear hG;go_wp2;exact⟨rfl,by rw[a.o];exact d.o⟩
     | true =>
     rw[if_neg (fun e=>e (eV.2 rfl))] at a;clear eV xE;obtain⟨x0,x1,x2,x3,x4,x5,x6⟩:=HC.o _ _ _ D.o;unfold ei cI at x0 x1 x2 x3 x4 x5 x6 D kF;go_wp2_with fail;refine(gv 412 _ _ _ _).mono ?_;rintro e wq ⟨rfl,r⟩;rw[r];clear r;generalize (w4.alloc (K #[V ⟨#[84,117,115,45,86,101,114,115,105,111,110]⟩,V ⟨#[49,46,48,46,48]⟩] 128))=w5 at *;rw[if_neg HTf.o] at a;obtain⟨Rs,Rt⟩:=Dk (g:=g) (m:=m) (t:=t) (mi:=mi) (ln:=ln) (fo:=fo) (gG:=gG) (nf:=nf) (bo:=bo) (gF:=gF) (nb:=nb) D.o.b vX.o (D.o.y Lp.o) ht;cases Ru:lZ s.h t with
     | none =>
       rw[Ru] at a;simp only at a;have HUp:=aa (Rs Ru);clear Rs Rt Ru;go_wp2_with fail;refine(HUp.o).mono ?_;rintro e y hG;obtain⟨d,j,n,q,he⟩:=D.o.d hG;unfold bZ at he;subst he;clear hG;go_wp2;exact⟨rfl,by rw[a.o];exact d.o⟩
     | some u =>
     rw[Ru] at a;simp only at a;have HUp:=aa (Rt u Ru);have hmem:=(B0 Ru).1;have huo:=vX.o.h.a u hmem;have XK:=huo.a;have hs0:=huo.d;have hs1:=huo.e
     clear Rs Rt Ru hmem huo;obtain⟨L,hun⟩:∃L,u.a.length=L:=⟨_,rfl⟩;have HUn:=aa hun;rw[hun] at XK;rw[hun] at HUp;clear hun;go_wp2_with fail;refine HUp.o.mono ?_;rintro e z ⟨T,gT,rfl,r⟩;have x:=(aq _ z).alloc (ak _) (K #[I J u.b,I J u.c,V u.d,Z T L gT,I J u.e] 92);have B:=aa ((D.o.a bJ r).a bJ x);have wB:=aa (ar (ar kF.o r) x);clear r x HUp D kF x0 x1 x2 x3 x4 x5 x6;obtain⟨x0,x1,x2,x3,x4,x5,x6⟩:=HC.o _ _ _ B.o;have v0:(z.alloc (K #[I J u.b,I J u.c,V u.d,Z T L gT,I J u.e] 92)).cell? ⟨z.heap.size,0,U⟩=M (I J u.b):=World.cell?_alloc_mark z _ _ _ 0;have v1:(z.alloc (K #[I J u.b,I J u.c,V u.d,Z T L gT,I J u.e] 92)).cell? ⟨z.heap.size,1,U⟩=M (I J u.c):=World.cell?_alloc_mark z _ _ _ 1;have v2:(z.alloc (K #[I J u.b,I J u.c,V u.d,Z T L gT,I J u.e] 92)).cell? ⟨z.heap.size,2,U⟩=M (V u.d):=World.cell?_alloc_mark z _ _ _ 2;have v3:(z.alloc (K #[I J u.b,I J u.c,V u.d,Z T L gT,I J u.e] 92)).cell? ⟨z.heap.size,3,U⟩=M (Z T L gT):=World.cell?_alloc_mark z _ _ _ 3;have v4:(z.alloc (K #[I J u.b,I J u.c,V u.d,Z T L gT,I J u.e] 92)).cell? ⟨z.heap.size,4,U⟩=M (I J u.e):=World.cell?_alloc_mark z _ _ _ 4;go_upto_region 8 with fail
     generalize (z.alloc (K #[I J u.b,I J u.c,V u.d,Z T L gT,I J u.e] 92))=w7 at *;generalize z.heap.size=k6 at *;unfold qg at a;obtain⟨bh,hbh⟩:∃b,(m.toList==([72,69,65,68]:ae))=b:=⟨_,rfl⟩;have eH:m=vY<->bh=true:=by rw[<-hbh];exact ow m vY _ rfl
     cases bh with
     | true =>
       rw[if_pos (eH.2 rfl)] at a;have HDs:Hid (Calls prog 122 #[.agg #[I J u.b,I J u.c,V u.d,Z T L gT,I J u.e]] w7 fun e w'=>∃(ao:ai) (cap k:Nat),e=Y (.agg #[I J 200,Z ao k cap,Z U 0 0])∧(jS u).2.length=k∧aG w' w7.heap.size 128 2 ao cap k (aI (jS u).2)∧Below w7.heap.size w7 w'):=IV u T L gT HUn.o hs0 hs1 XK w7 (B.o.y Lp.o);have TS:Hid (jS u=(200,(jS u).2)):=by unfold Hid;rfl
       rw[TS.o] at a;clear eH TS;generalize (jS u).2=lh at *;go_wp2_with fail;refine HDs.o.mono ?_;rintro e y ⟨j,n,q,rfl,f,c,C⟩;obtain⟨⟨z0,z1,z2,y0,y1,y2⟩,d⟩:=B.o.e bJ (i:=1) rfl (b:=w.heap.size+1) (by first | rfl | omega) (st:=200) (mY:=200) rfl f (ce (ej _ _) B.o.c) c C;clear f c C;go_wp2;generalize (((y.setCell ⟨w.heap.size+1,0,U⟩ (I J 200)).setCell ⟨w.heap.size+1,1,U⟩ (Z j q n)).setCell ⟨w.heap.size+1,2,U⟩ (Z U 0 0))=wf at *;obtain⟨q0,q1,q2,q3⟩:=d.o;refine aR (v:=.agg #[I J 200,Z j q n,Z U 0 0]) (by simp[results,results72,go_sem,q0,q1,q2]) rfl ?_;rw[a.o];exact pu.a q3
     | false =>
     rw[if_neg (fun e=>by have:=eH.1 e;cases this)] at a;clear eH;obtain⟨bt,hbt⟩:∃b,(m.toList==([80,65,84,67,72]:ae))=b:=⟨_,rfl⟩;have eT:m=we<->bt=true:=by rw[<-hbt];exact ow m we _ rfl
     cases bt with
     | true =>
       rw[if_neg (fun e=>by have:=(eT.2 rfl).symm.trans e;revert this;decide),if_pos (eT.2 rfl)] at a;have HEx:=aa (Dn (g:=g) (m:=m) (t:=t) (mi:=mi) (ln:=ln) (bo:=bo) (gF:=gF) (nb:=nb) (B.o.jN Lp.o) B.o.b vX.o (HF.o.a wB.o) body Zx.o (Ea.o.a wB.o) hnb u T L gT HUn.o XK hs0);clear eT;generalize lw s u l body=r9 at *;obtain⟨sr,st,lr⟩:=r9;go_wp2_with fail;refine(HEx.o).mono ?_;rintro e y hE;cases hE with
       | @gave j n q _ f c G H =>
         have d:=aa (B.o.jD f c G H);unfold bZ at d ⊢;clear f c G H;go_wp2;exact⟨rfl,by rw[a.o];exact d.o⟩
       | @ret j n q _ f c G H =>
         have Jy:=B.o.f G H;replace c:=c.j (ce (ej _ _) B.o.c);have C:=aq y.heap.size y;obtain⟨⟨z0,z1,z2,y0,y1,y2⟩,d⟩:=Jy.e bJ (i:=1) rfl (b:=w.heap.size+1) (by first | rfl | omega) (st:=st) (mY:=(st:Int)) rfl f (ak _) c C;clear f c C G H Jy;go_wp2;generalize (((y.setCell ⟨w.heap.size+1,0,U⟩ (I J (st:Int))).setCell ⟨w.heap.size+1,1,U⟩ (Z j q n)).setCell ⟨w.heap.size+1,2,U⟩ (Z U 0 0))=wf at *;obtain⟨q0,q1,q2,q3⟩:=d.o;refine aR (v:=.agg #[I J (st:Int),Z j q n,Z U 0 0]) (by simp[results,results72,go_sem,q0,q1,q2]) rfl ?_;rw[a.o];exact pu.a q3
     | false =>
     obtain⟨bd,hbd⟩:∃b,(m.toList==([68,69,76,69,84,69]:ae))=b:=⟨_,rfl⟩;have eD:m=wa<->bd=true:=by rw[<-hbd];exact ow m wa _ rfl
     cases bd with
     | true =>
       rw[if_pos (eD.2 rfl)] at a;have HRe:=aa (Dl (g:=g) (m:=m) (t:=t) (mi:=mi) (ln:=ln) (fo:=fo) (gG:=gG) (nf:=nf) (bo:=bo) (gF:=gF) (nb:=nb) B.o.b vX.o u T L gT);clear eT eD;generalize (ey (gn s u.b).1,bY 204 [])=r9 at *;obtain⟨sr,st,lr⟩:=r9;go_wp2_with fail;refine(HRe.o).mono ?_;rintro e y hE;cases hE with
       | @gave j n q _ f c G H =>
         have d:=aa (B.o.jD f c G H);unfold bZ at d ⊢;clear f c G H;go_wp2;exact⟨rfl,by rw[a.o];exact d.o⟩
       | @ret j n q _ f c G H =>
         have Jy:=B.o.f G H;replace c:=c.j (ce (ej _ _) B.o.c);have C:=aq y.heap.size y;obtain⟨⟨z0,z1,z2,y0,y1,y2⟩,d⟩:=Jy.e bJ (i:=1) rfl (b:=w.heap.size+1) (by first | rfl | omega) (st:=st) (mY:=(st:Int)) rfl f (ak _) c C;clear f c C G H Jy;go_wp2;generalize (((y.setCell ⟨w.heap.size+1,0,U⟩ (I J (st:Int))).setCell ⟨w.heap.size+1,1,U⟩ (Z j q n)).setCell ⟨w.heap.size+1,2,U⟩ (Z U 0 0))=wf at *;obtain⟨q0,q1,q2,q3⟩:=d.o;refine aR (v:=.agg #[I J (st:Int),Z j q n,Z U 0 0]) (by simp[results,results72,go_sem,q0,q1,q2]) rfl ?_;rw[a.o];exact pu.a q3
     | false =>
     rw[if_neg (fun e=>by have:=eD.1 e;cases this),if_neg (fun e=>by have:=eT.1 e;cases this)] at a;have NR:=aa (oG 405 405 rfl [] U 0 0 w7 (bx.f w7) rfl (by decide));clear eT eD;go_wp2_with fail;refine NR.o.mono ?_;rintro e y ⟨j,n,q,rfl,f,c,C⟩;obtain⟨⟨z0,z1,z2,y0,y1,y2⟩,d⟩:=B.o.e bJ (i:=1) rfl (b:=w.heap.size+1) (by first | rfl | omega) (st:=405) (mY:=405) rfl f (ce (ej _ _) B.o.c) c C;clear f c C;go_wp2;generalize (((y.setCell ⟨w.heap.size+1,0,U⟩ (I J 405)).setCell ⟨w.heap.size+1,1,U⟩ (Z j q n)).setCell ⟨w.heap.size+1,2,U⟩ (Z U 0 0))=wf at *;obtain⟨q0,q1,q2,q3⟩:=d.o;refine aR (v:=.agg #[I J 405,Z j q n,Z U 0 0]) (by simp[results,results72,go_sem,q0,q1,q2]) rfl ?_;rw[a.o];exact pu.a q3
end
theorem I0 (b:Nat)(st:Int)(ao:ai)(n cap:Nat)(a:List PanicEntry)(w:X)(d:w.cell? ⟨b,0,U⟩=M (I J 0)∧w.cell? ⟨b,1,U⟩=M (Z U 0 0)∧w.cell? ⟨b,2,U⟩=M (Z U 0 0)∧w.frozen? ⟨b,0,U⟩=F∧w.frozen? ⟨b,1,U⟩=F∧w.frozen? ⟨b,2,U⟩=F):
 CallsD prog 115 #[Q (M ⟨b,0,U⟩)] (.panicking ({ v:=.iface 191 (.agg #[I J st,Z ao n cap,Z U 0 0]),recovered:=F }::a)) w fun e f w' =>
  e=Y (.tuple #[])∧f=.panicking ({ v:=.iface 191 (.agg #[I J st,Z ao n cap,Z U 0 0]),recovered:=true }::a)∧w'=(((w.setCell ⟨b,0,U⟩ (I J st)).setCell ⟨b,1,U⟩ (Z ao n cap)).setCell ⟨b,2,U⟩ (Z U 0 0)):=by
 obtain⟨k,l,m,o,p,q⟩:=d;refine callsD_of_wpS func115 rfl fun c r g=>?_;apply wpS_seq;apply wpS_region;simp[wpOpsS,go_sem,recoverD,g,ntmps115,Exit.thenS];change Code.wpS _ _ _ { tmps:=#[Q (M ⟨b,0,U⟩),.iface 191 (.agg #[I J st,Z ao n cap,Z U 0 0]),.iface 191 (.agg #[I J st,Z ao n cap,Z U 0 0]),undef,undef,undef,undef,undef],defers:=[] } _ _;refine wpS_of_wp ?_;have i:∀w:X,(Instr.typeAssert (.iface 191 (.agg #[I J st,Z ao n cap,Z U 0 0])) 20 191 F).run prog w=.ok (.agg #[I J st,Z ao n cap,Z U 0 0]) w:=fun _=>by kernel_rfl
 have j:∀w:X,(Instr.field 191 (.agg #[I J st,Z ao n cap,Z U 0 0]) 0).run prog w=.ok (.agg #[I J st,Z ao n cap,Z U 0 0]) w:=fun _=>by kernel_rfl
 go_wp2;simp[bodyPostS,results,results115]
theorem M3 (b:Nat)(w:X):
 CallsD prog 115 #[Q (M ⟨b,0,U⟩)] .returning w fun e c w'=>e=Y (.tuple #[])∧c=.returning∧w'=w:=by
 refine callsD_of_wpS func115 rfl fun a f d=>?_;apply wpS_seq;apply wpS_region;simp[wpOpsS,go_sem,recoverD,d,ntmps115,Exit.thenS];change Code.wpS _ _ _ { tmps:=#[Q (M ⟨b,0,U⟩),.nilIface,.nilIface,undef,undef,undef,undef,undef],defers:=[] } _ _;refine wpS_of_wp ?_;go_wp2;cases a;simp_all [bodyPostS,results,results115]
section
variable {g:Nat} {m t:ag} {mi ln:Int} {l:aC} {fo:ai} {gG nf:Nat} {bo:ai} {gF nb:Nat} {w w0:X} {S:Nat->Prop} {s:av}
theorem US (h:aY w S g s):cj aY S w g [K #[I J 0,Z U 0 0,Z U 0 0] 106 (0,0)] s (fun k=>S k∧k<w.heap.size) (w.alloc (K #[I J 0,Z U 0 0,Z U 0 0] 106)):=(cj.G bJ h).q bJ rfl (fun _ e=>e.2) _
theorem M4 (p:ka w0 w S)(h:aY w S g s)(ok:aN s)(hF:gz w l fo gG nf)(body:ae)(hb:body.length=nb)(hB:ay w bo gF body)(x:nb<=100000)(ht:t.size<=100000):
 Calls prog 71 #[.func (.func 72) #[.agg #[Q (M ⟨g,0,U⟩),V m,V t,I J mi,Z fo nf gG,I J ln,Z bo nb gF]] #[]] w fun e w'=>uy aY S w g (bq s m t l body) e w':=by
 have Te:∀(fn:Fn) (first k:Array Value) (w:X),(Instr.makeFunc fn first k).run prog w=.ok (.func fn first k) w:=fun _ _ _ _=>rfl;have j:=US h;have n:=(aq _ w).alloc (ak _) (K #[I J 0,Z U 0 0,Z U 0 0] 106);have q:=Pg (m:=m) (t:=t) (mi:=mi) (ln:=ln) (bo:=bo) (gF:=gF) (nb:=nb) (j.jN p) j.b ok (hF.a n) body hb (hB.a n) x ht;obtain⟨a,hR⟩:∃a,a=bq s m t l body:=⟨_,rfl⟩;rw[<-hR] at q ⊢;obtain⟨sr,st,lr⟩:=a;go_enter_defers func71,ntmps71
 go_wp2_with fail;refine q.mono ?_;rintro e c hE;cases hE with
 | @gave r u v _ y d z B =>
   have C:=j.f z B;replace d:=d.j (ce (ej _ _) j.c);obtain⟨hz,D⟩:=C.e bJ (i:=0) rfl (b:=w.heap.size) (by first | rfl | omega) (st:=st) (mY:=(st:Int)) rfl y (ak _) d (aq c.heap.size c);unfold bZ;go_wp2;refine leaves_cons (f:=115) (args:=#[Q (M ⟨w.heap.size,0,U⟩)]) (by simp) (by simp[go_sem]) ?_;refine(I0 w.heap.size st r v u [] c hz).mono ?_;rintro e u' G ⟨rfl,rfl,H⟩;rw[H];generalize (((c.setCell ⟨w.heap.size,0,U⟩ (I J (st:Int))).setCell ⟨w.heap.size,1,U⟩ (Z r v u)).setCell ⟨w.heap.size,2,U⟩ (Z U 0 0))=wf at *;obtain⟨L,N,T,W⟩:=D.o;simp[Leaves,settle,results,results71,go_sem,L,N,T];exact W
 | @ret r u v _ y d z B =>
   have C:=j.f z B;replace d:=d.j (ce (ej _ _) j.c);obtain⟨⟨z0,z1,z2,y0,y1,y2⟩,D⟩:=C.e bJ (i:=0) rfl (b:=w.heap.size) (by first | rfl | omega) (st:=st) (mY:=(st:Int)) rfl y (ak _) d (aq c.heap.size c);go_wp2;refine leaves_cons (f:=115) (args:=#[Q (M ⟨w.heap.size,0,U⟩)]) (by simp) (by simp[go_sem]) ?_;refine(M3 w.heap.size _).mono ?_;rintro e u' G ⟨rfl,rfl,H⟩;rw[H];generalize (((c.setCell ⟨w.heap.size,0,U⟩ (I J (st:Int))).setCell ⟨w.heap.size,1,U⟩ (Z r v u)).setCell ⟨w.heap.size,2,U⟩ (Z U 0 0))=wf at *;obtain⟨L,N,T,W⟩:=D.o;simp[Leaves,settle,results,results71,go_sem,L,N,T];exact W
theorem Hv (p:ka w0 w S)(h:aY w S g s)(ok:aN s)(D:gz w l fo gG nf)(body:ae)(G:body.length=nb)(H:ay w bo gF body)(r:nb<=100000)(L:t.size<=100000):
 Calls prog 39 #[Q (M ⟨g,0,U⟩),.agg #[V m,V t,I J mi,Z fo nf gG,I J ln],Z bo nb gF] w fun e w'=>uy aY S w g (bq s m t l body) e w':=by
 have Te:∀(y:Fn) (first d:Array Value) (w:X),(Instr.makeFunc y first d).run prog w=.ok (.func y first d) w:=fun _ _ _ _=>rfl;have a:(w.alloc (K #[V m,V t,I J mi,Z fo nf gG,I J ln] 82)).heap.size=w.heap.size+1:=ch ..;have f:((w.alloc (K #[V m,V t,I J mi,Z fo nf gG,I J ln] 82)).alloc (K #[I J 0,Z U 0 0,Z U 0 0] 106)).heap.size=w.heap.size+2:=by rw[ch,a]
 have q:cj aY S w g [K #[V m,V t,I J mi,Z fo nf gG,I J ln] 82 (0,0),K #[I J 0,Z U 0 0,Z U 0 0] 106 (0,0),K #[Q (M ⟨g,0,U⟩),V m,V t,I J mi,Z fo nf gG,I J ln,Z bo nb gF] 145 (0,0)] s (fun k=>S k∧k<w.heap.size) (((w.alloc (K #[V m,V t,I J mi,Z fo nf gG,I J ln] 82)).alloc (K #[I J 0,Z U 0 0,Z U 0 0] 106)).alloc (K #[Q (M ⟨g,0,U⟩),V m,V t,I J mi,Z fo nf gG,I J ln,Z bo nb gF] 145)) :=
  (((cj.G bJ h).q bJ rfl (fun k e=>e.2) _).q bJ a (fun k e=>by rw[a];have:=e.2;omega) _).q bJ f (fun k e=>by rw[f];have:=e.2;omega) _
 have j:Below w.heap.size w (((w.alloc (K #[V m,V t,I J mi,Z fo nf gG,I J ln] 82)).alloc (K #[I J 0,Z U 0 0,Z U 0 0] 106)).alloc (K #[Q (M ⟨g,0,U⟩),V m,V t,I J mi,Z fo nf gG,I J ln,Z bo nb gF] 145)):=ar (ar ((aq _ w).alloc (ak _) _) ((aq _ _).alloc (ak _) _)) ((aq _ _).alloc (ak _) _);have n:=M4 (m:=m) (t:=t) (mi:=mi) (ln:=ln) (bo:=bo) (gF:=gF) (nb:=nb) (q.jN p) q.b ok (D.a j) body G (H.a j) r L;obtain⟨c,N⟩:∃c,c=bq s m t l body:=⟨_,rfl⟩;rw[<-N] at n ⊢;obtain⟨sr,st,lr⟩:=c;go_enter func39,ntmps39;go_wp2_with fail;refine n.mono ?_;rintro e u ⟨⟨z,B,C,rfl,T,x⟩,W,rE⟩;have Jy:=q.f W rE;replace x:=x.j (ce (ej _ _) q.c);obtain⟨⟨z0,z1,z2,y0,y1,y2⟩,HE⟩:=Jy.e bJ (i:=1) rfl (b:=w.heap.size+1) (by first | rfl | omega) (st:=st) (mY:=(st:Int)) rfl T (ak _) x (aq u.heap.size u);go_wp2;generalize (((u.setCell ⟨w.heap.size+1,0,U⟩ (I J (st:Int))).setCell ⟨w.heap.size+1,1,U⟩ (Z z C B)).setCell ⟨w.heap.size+1,2,U⟩ (Z U 0 0))=wf at *;obtain⟨q0,q1,q2,q3⟩:=HE.o;refine aR (v:=.agg #[I J (st:Int),Z z C B,Z U 0 0]) (by simp[results,results39,go_sem,q0,q1,q2]) rfl ?_;exact q3
