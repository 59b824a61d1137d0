/- Small texts, one behind the other: FbPow, TsB, TsC, TsD, TsE, RpF, TsG, TsF, TsI, TsK, TsJ, TsH, TsL, TsM. -/
import Derived.Lib.AppendIntMem
import Derived.Test.YthhklgjjnaeaoaaGreatDoorPk42
open Go.Value renaming int->I,string->V,slice->Z,pointer->Q
open Go.IntKind renaming i64->J
open Go.Obj renaming cells->K
open Go.Ending renaming returned->Y
open Option renaming none->U,some->M
open Bool renaming false->F
open Or renaming inl->A,inr->R
open Go renaming World->X
set_option maxHeartbeats 8000000
set_option maxRecDepth 100000
open Go.Proofs.Tryz
namespace Go.Proofs.YthhklgjjnaeaoaaGreatDoor
open Go.RowKit
def kD (w:X):Prop:=Lib.TabIs prog w "internal/strconv.uint64pow10" .u64 Lib.pow10Tab
theorem kD.stay {w w':X}(h:kD w)(c:Below w.heap.size w w'):kD w':=by
 unfold kD Lib.TabIs World.var? at h ⊢;cases a:prog.globalNamed "internal/strconv.uint64pow10" with
 | none=>rw[a] at h;cases h
 | some g =>
   rw[a] at h;simp only[Option.bind_some] at h ⊢;cases b:w.heap[g]? with
   | none=>rw[b] at h;cases h
   | some o=>rw[c.block g (aL.1 b).1];exact h
theorem DW:∀(f n:Nat),n<10 ^ (f+1)->Lib.decDigits n=Ch.iV f n
 | 0, n, h => by
   rw[Lib.decDigits,dif_pos (by simpa using h)];rfl
 | f + 1, n, h => by
   rw[Lib.decDigits,Ch.iV];by_cases a:n<10
   . rw[dif_pos a,if_pos a]
   . rw[dif_neg a,if_neg a,DW f (n / 10) (by rw[Nat.pow_succ] at h;omega)]
theorem pz (n:Nat)(a:n<1000000000)(W:X)(b:kD W):Calls prog 151 #[I J (n:Int)] W fun e w'=>e=Y (V ⟨(Ch.iV 8 n).toArray⟩)∧Below W.heap.size W w':=by
 have h:=Any.strconv_Itoa Tryz.lays171 (n:Int) (by omega) (by omega) W b;rw[Lib.itoa_nonneg,DW 8 n (by simpa using a)] at h;refine h.mono ?_;rintro e w' ⟨c,k,d,rfl⟩;exact⟨c,Lib.below_grow _ W (aM _) k d⟩
theorem Gr (a v:ay)(x:Int)(w:X)(l:∀W,Below w.heap.size w W->Calls prog 151 #[I J x] W fun e w'=>e=Y (V v)∧Below W.heap.size W w'):
 Calls prog 167 #[V a,I J x] w fun e w'=>e=Y (.agg #[V a,V v])∧Below w.heap.size w w':=by
 have i:=(eY _ w).alloc (aM _) (K #[V ⟨#[]⟩,V ⟨#[]⟩] 131);go_enter func167,ntmps167;go_wp2_with fail
 refine(l _ i).mono ?_;rintro e m ⟨rfl,f⟩;go_wp2_with fail
 refine(jV a v m).mono ?_;rintro e b ⟨rfl,g⟩;have c:=then_ f g;have d:=(c.block w.heap.size (by simp)).trans (eX w _);have r:=eZ b _ 0 _ _ _ d;have s:=eZ b _ 1 _ _ _ d;have t:=fq b _ 0 _ _ d;have u:=fq b _ 1 _ _ d;have n:=((then_ i c).setCell (p:=⟨w.heap.size,0,U⟩) (aM _) (V a)).setCell (p:=⟨w.heap.size,1,U⟩) (aM _) (V v);have j:=fu _ _ 1 _ _ (V v) (fu _ _ 0 _ _ (V a) d);go_wp2;generalize ((b.setCell ⟨w.heap.size,0,U⟩ (V a)).setCell ⟨w.heap.size,1,U⟩ (V v))=k at *;have o:=eZ k _ 0 _ _ _ j;have q:=eZ k _ 1 _ _ _ j;exact fI (v:=.agg #[V a,V v]) (by simp[results,results167,go_sem,o,q]) rfl ⟨rfl,n⟩
theorem oG (a:ay)(n:Nat)(x:Int)(b:(n:Int)=x)(c:n<1000000000)(w:X)(d:kD w):Calls prog 167 #[V a,I J x] w fun e w'=>e=Y (.agg #[V a,V (Tu.dec n)])∧Below w.heap.size w w':=by
 subst b;exact Gr a (Tu.dec n) n w (fun W f=>pz n c W (d.stay f))
theorem Bn (c:Nat)(w:X):
 Calls prog 222 #[I J (c:Int)] w fun e w'=>e=Y (I J (Tu.status c:Nat))∧w'=w:=by
 by_cases a:c=10
 . subst a;go_enter func222,ntmps222;go_wp2;go_ret;exact⟨rfl,rfl⟩
 by_cases b:c=17
 . subst b;go_enter func222,ntmps222;go_wp2;go_ret;exact⟨rfl,rfl⟩
 by_cases d:c=19
 . subst d;go_enter func222,ntmps222;go_wp2;go_ret;exact⟨rfl,rfl⟩
 by_cases g:c=4
 . subst g;go_enter func222,ntmps222;go_wp2;go_ret;exact⟨rfl,rfl⟩
 by_cases i:c=8
 . subst i;go_enter func222,ntmps222;go_wp2;go_ret;exact⟨rfl,rfl⟩
 by_cases f:c=16
 . subst f;go_enter func222,ntmps222;go_wp2;go_ret;exact⟨rfl,rfl⟩
 have j:Hid (Tu.status c=400):=by
  unfold Hid Tu.status;rw[if_neg a,if_neg (by omega),if_neg g,if_neg (by omega)]
 have k:((c:Int)==10)=F:=by rw[aR];omega
 have l:((c:Int)==17)=F:=by rw[aR];omega
 have m:((c:Int)==19)=F:=by rw[aR];omega
 have p:((c:Int)==4)=F:=by rw[aR];omega
 have q:((c:Int)==8)=F:=by rw[aR];omega
 have n:((c:Int)==16)=F:=by rw[aR];omega
 go_enter func222,ntmps222;go_wp2;go_ret;exact⟨by rw[j.o];rfl,rfl⟩
theorem qb (w:X):Calls prog 171 #[I J 0] w fun e w'=>e=Y (.tuple #[])∧w'=w:=by
 have b:=H9 (Bn 0 w);go_enter func171,ntmps171;go_wp2_with fail
 refine b.o.mono ?_;rintro e c ⟨rfl,a⟩;rw[a];clear a;go_wp2_with fail
 refine(iF _ U 0 0 w).mono ?_;rintro e d ⟨rfl,a⟩;rw[a];clear a;go_wp2;go_end0
 exact⟨rfl,rfl⟩
theorem rF (c:Nat)(i:c≠0)(w:X):Calls prog 171 #[I J (c:Int)] w fun e w'=>pY w (Tu.said (Tu.status c) []) e w':=by
 have j:((c:Int)==0)=F:=by rw[aR];omega
 go_enter func171,ntmps171;go_wp2_with fail
 refine(Bn c w).mono ?_;rintro e k ⟨rfl,d⟩;rw[d];go_wp2_with fail
 refine(iJ (Tu.status c) (Tu.status c:Nat) rfl w).mono ?_;rintro e l a;have f:=H9 a;obtain⟨m,g,n,b,_,_,_⟩:=a;unfold iG at b;subst b;go_wp2;exact⟨rfl,f.o⟩
structure pE (w:X)(l:au)(fo:ak)(fZ nf:Nat):Prop where
 is:ji w fo fZ nf (gG l)
 len:l.length=nf
 few:nf<=1000
 small:∀p∈l,p.1.size<=2000∧p.2.size<=2000
theorem pE.stay {w w':X}{l:au}{fo:ak}{fZ nf:Nat}(h:pE w l fo fZ nf)(a:Below w.heap.size w w'):pE w' l fo fZ nf:=⟨h.is.stay a,h.len,h.few,h.small⟩
section
variable {g:Nat} {m t:ay} {mi ln:Int} {l:au} {fo:ak} {fZ nf:Nat} {bo:ak} {fU nb:Nat} {w:X}
theorem oH (a:ay)(n:a.size<=2000)(h:pE w l fo fZ nf){v:av}{c:Nat}(p:Tu.one (Tu.vals a l)=(v,c))(x:c≠9):
 Calls prog 119 #[.agg #[Q (M ⟨g,0,U⟩),V m,V t,I J mi,Z fo nf fZ,I J ln,Z bo nb fU],V a] w fun e w'=>e=Y (.tuple #[V ⟨v.toArray⟩,.bool (decide (c=0))])∧Below w.heap.size w w':=by
 have j:=(eY _ w).alloc (aM _) (K #[Q (M ⟨g,0,U⟩),V m,V t,I J mi,Z fo nf fZ,I J ln,Z bo nb fU] 148);have d:=sU l a fo fZ nf _ (h.stay j).is h.len (by have:=h.few;omega) h.small n;rw[Tu.Wo,Tu.Qq,p] at d;unfold sM at d;have y:((c:Int) != 9)=true:=by rw[cK];omega
 have z:(w.alloc (K #[Q (M ⟨g,0,U⟩),V m,V t,I J mi,Z fo nf fZ,I J ln,Z bo nb fU] 148)).cell? ⟨w.heap.size,4,U⟩=M (Z fo nf fZ):=World.cell?_alloc_mark w _ _ _ 4;generalize (⟨v.toArray⟩:ay)=B at *;have q:Hid (∃b:Bool,((c:Int)==0)=b∧decide (c=0)=b):=by
  by_cases k:c=0
  . subst k;exact⟨true,rfl,rfl⟩
  . exact⟨F,by rw[aR];omega,aJ k⟩
 obtain⟨b,C,r⟩:=q.o;rw[r];go_enter func119,ntmps119;go_wp2_with fail
 refine d.mono ?_;rintro e s ⟨rfl,f⟩;have i:=then_ j f;go_wp2_with fail
 refine(iF 400 U 0 0 s).mono ?_;rintro e D ⟨rfl,u⟩;rw[u];go_wp2;go_ret2;exact⟨rfl,i⟩
theorem xX (a:ay)(b:a.size<=2000)(h:pE w l fo fZ nf){v:av}(c:Tu.one (Tu.vals a l)=(v,0)):
 Calls prog 119 #[.agg #[Q (M ⟨g,0,U⟩),V m,V t,I J mi,Z fo nf fZ,I J ln,Z bo nb fU],V a] w fun e w'=>e=Y (.tuple #[V ⟨v.toArray⟩,.bool true])∧Below w.heap.size w w':=oH a b h c (by decide)
theorem Gu (a:ay)(b:a.size<=2000)(h:pE w l fo fZ nf){v:av}(c:Tu.one (Tu.vals a l)=(v,10)):
 Calls prog 119 #[.agg #[Q (M ⟨g,0,U⟩),V m,V t,I J mi,Z fo nf fZ,I J ln,Z bo nb fU],V a] w fun e w'=>e=Y (.tuple #[V ⟨v.toArray⟩,.bool F])∧Below w.heap.size w w':=oH a b h c (by decide)
theorem qK (a:ay)(k:a.size<=2000)(h:pE w l fo fZ nf){v:av}(o:Tu.one (Tu.vals a l)=(v,9)):
 Calls prog 119 #[.agg #[Q (M ⟨g,0,U⟩),V m,V t,I J mi,Z fo nf fZ,I J ln,Z bo nb fU],V a] w fun e w'=>pY w (Tu.said 400 []) e w':=by
 have f:=(eY _ w).alloc (aM _) (K #[Q (M ⟨g,0,U⟩),V m,V t,I J mi,Z fo nf fZ,I J ln,Z bo nb fU] 148);have b:=sU l a fo fZ nf _ (h.stay f).is h.len (by have:=h.few;omega) h.small k;rw[Tu.Wo,Tu.Qq,o] at b;unfold sM at b;have s:(w.alloc (K #[Q (M ⟨g,0,U⟩),V m,V t,I J mi,Z fo nf fZ,I J ln,Z bo nb fU] 148)).cell? ⟨w.heap.size,4,U⟩=M (Z fo nf fZ):=World.cell?_alloc_mark w _ _ _ 4;generalize (⟨v.toArray⟩:ay)=u at *;go_enter func119,ntmps119;go_wp2_with fail
 refine b.mono ?_;rintro e p ⟨rfl,c⟩;have d:=then_ f c;go_wp2_with fail
 refine(iJ 400 400 rfl p).mono ?_;rintro e x i;have q:=i.from_ d;obtain⟨y,r,n,j,_,_,_⟩:=i;unfold iG at j;subst j;go_wp2;exact⟨rfl,q⟩
end
theorem Tu.KL (a:List ay):(Tu.one a).2=0∨(Tu.one a).2=9∨(Tu.one a).2=10:=by
 unfold Tu.one;split
 . exact R (R rfl)
 . exact A rfl
 . exact R (A rfl)
theorem Tu.kQ {a b:ay}(h:Ch.lower a.data.toList=Ch.lower b.data.toList)(l:au):Tu.vals a l=Tu.vals b l:=by unfold Tu.vals;rw[h]
theorem Tu.sV (l:au):Tu.vals Tu.AO l=Tu.vals Tu.YM l:=Tu.kQ (by decide +kernel) l
theorem Tu.vS (l:au):Tu.vals Tu.ET l=Tu.vals Tu.CV l:=Tu.kQ (by decide +kernel) l
theorem Tu.Wt (l:au):Tu.vals Tu.EU l=Tu.vals Tu.Vg l:=Tu.kQ (by decide +kernel) l
theorem Tu.KM (l:au):Tu.vals Tu.FX l=Tu.vals Tu.nUM l:=Tu.kQ (by decide +kernel) l
theorem Tu.Wu (l:au):Tu.vals Tu.uJ l=Tu.vals Tu.nUO l:=Tu.kQ (by decide +kernel) l
def Tu.fCT:ay:=⟨#[67,111,110,116,101,110,116,45,84,121,112,101]⟩
theorem Tu.DX (l:au):Tu.vals Tu.fCT l=Tu.vals Tu.Mx l:=Tu.kQ (by decide +kernel) l
section
variable {g:Nat} {m t:ay} {mi ln:Int} {l:au} {fo:ak} {fZ nf:Nat} {bo:ak} {fU nb:Nat} {w:X}
theorem pE.val (h:pE w l fo fZ nf)(a:ay):(Tu.one (Tu.vals a l)).1.length<=2000:=Tu.Wp l a 2000 (fun p b=>(h.small p b).2)
theorem uy {w W:X}(a:Below (w.alloc (K #[Q (M ⟨g,0,U⟩),V m,V t,I J mi,Z fo nf fZ,I J ln,Z bo nb fU] 148)).heap.size (w.alloc (K #[Q (M ⟨g,0,U⟩),V m,V t,I J mi,Z fo nf fZ,I J ln,Z bo nb fU] 148)) W):W.cell? ⟨w.heap.size,0,U⟩=M (Q (M ⟨g,0,U⟩))∧W.cell? ⟨w.heap.size,1,U⟩=M (V m)∧W.cell? ⟨w.heap.size,2,U⟩=M (V t)∧W.cell? ⟨w.heap.size,3,U⟩=M (I J mi)∧W.cell? ⟨w.heap.size,4,U⟩=M (Z fo nf fZ)∧W.cell? ⟨w.heap.size,5,U⟩=M (I J ln)∧W.cell? ⟨w.heap.size,6,U⟩=M (Z bo nb fU):=by
 have r:=(a.block w.heap.size (by simp)).trans (eX w _);exact⟨eZ W _ 0 _ _ _ r,eZ W _ 1 _ _ _ r,eZ W _ 2 _ _ _ r,eZ W _ 3 _ _ _ r,eZ W _ 4 _ _ _ r,eZ W _ 5 _ _ _ r,eZ W _ 6 _ _ _ r⟩
theorem zw (a:ay)(j:a.size<=2000)(h:pE w l fo fZ nf)(f:(Tu.one (Tu.vals a l)).2=10):
 Calls prog 175 #[.agg #[Q (M ⟨g,0,U⟩),V m,V t,I J mi,Z fo nf fZ,I J ln,Z bo nb fU],V a] w fun e w'=>e=Y (.tuple #[I J 0,.bool F])∧Below w.heap.size w w':=by
 have i:=(eY _ w).alloc (aM _) (K #[Q (M ⟨g,0,U⟩),V m,V t,I J mi,Z fo nf fZ,I J ln,Z bo nb fU] 148);generalize k:Tu.one (Tu.vals a l)=r at *;obtain⟨v,c⟩:=r;simp only at f;subst f;have n:=uy (g:=g) (m:=m) (t:=t) (mi:=mi) (ln:=ln) (fo:=fo) (fZ:=fZ) (nf:=nf) (bo:=bo) (fU:=fU) (nb:=nb) (w:=w) (eY _ _);generalize (⟨v.toArray⟩:ay)=o at *;go_enter func175,ntmps175;go_wp2_with fail
 refine(Gu a j (h.stay i) k).mono ?_;rintro e p ⟨rfl,b⟩;have d:=then_ i b;go_wp2;go_ret2;exact⟨rfl,d⟩
theorem Bo (a:ay)(s:a.size<=2000)(h:pE w l fo fZ nf)(o:(Tu.one (Tu.vals a l)).2≠10){x:Int}(i:Tu.jk (Tu.one (Tu.vals a l))=(x,true)):
 Calls prog 175 #[.agg #[Q (M ⟨g,0,U⟩),V m,V t,I J mi,Z fo nf fZ,I J ln,Z bo nb fU],V a] w fun e w'=>e=Y (.tuple #[I J x,.bool true])∧Below w.heap.size w w':=by
 have p:=(eY _ w).alloc (aM _) (K #[Q (M ⟨g,0,U⟩),V m,V t,I J mi,Z fo nf fZ,I J ln,Z bo nb fU] 148);have u:=h.val a;generalize y:Tu.one (Tu.vals a l)=r at *;obtain⟨v,c⟩:=r;simp only at o u;unfold Tu.jk at i;rw[if_neg o] at i;injection i with d b;rw[cO,bP] at b;obtain⟨b,f⟩:=b;simp only at d b f;subst f;have z:=xX (g:=g) (m:=m) (t:=t) (mi:=mi) (ln:=ln) (bo:=bo) (fU:=fU) (nb:=nb) a s (h.stay p) y;have B:∀W,Calls prog 173 #[V ⟨v.toArray⟩] W fun e w'=>e=Y (.tuple #[I J x,.bool true])∧w'=W:=fun W=>by
  have:=nV ⟨v.toArray⟩ W (by show v.toArray.size<=_;rw[bK];unfold maxLen;omega);rw[show(⟨v.toArray⟩:ay).data.toList=v from by simp,d,b] at this;exact this
 have D:=uy (g:=g) (m:=m) (t:=t) (mi:=mi) (ln:=ln) (fo:=fo) (fZ:=fZ) (nf:=nf) (bo:=bo) (fU:=fU) (nb:=nb) (w:=w) (eY _ _);generalize (⟨v.toArray⟩:ay)=G at *;go_enter func175,ntmps175;go_wp2_with fail
 refine z.mono ?_;rintro e q ⟨rfl,j⟩;have k:=then_ p j;go_wp2_with fail
 refine(B q).mono ?_;rintro e C ⟨rfl,n⟩;rw[n];go_wp2_with fail
 refine(iF 400 U 0 0 q).mono ?_;rintro e C ⟨rfl,n⟩;rw[n];go_wp2;go_ret2;exact⟨rfl,k⟩
theorem DY (a:ay)(x:a.size<=2000)(h:pE w l fo fZ nf)(b:(Tu.jk (Tu.one (Tu.vals a l))).2=F):
 Calls prog 175 #[.agg #[Q (M ⟨g,0,U⟩),V m,V t,I J mi,Z fo nf fZ,I J ln,Z bo nb fU],V a] w fun e w'=>pY w (Tu.said 400 []) e w':=by
 have i:=(eY _ w).alloc (aM _) (K #[Q (M ⟨g,0,U⟩),V m,V t,I J mi,Z fo nf fZ,I J ln,Z bo nb fU] 148);have D:=h.val a;have j:=Tu.KL (Tu.vals a l);generalize z:Tu.one (Tu.vals a l)=r at *;obtain⟨v,c⟩:=r;have T:=uy (g:=g) (m:=m) (t:=t) (mi:=mi) (ln:=ln) (fo:=fo) (fZ:=fZ) (nf:=nf) (bo:=bo) (fU:=fU) (nb:=nb) (w:=w) (eY _ _);simp only at j D;unfold Tu.jk at b;by_cases k:c=9
 . subst k;go_enter func175,ntmps175;go_wp2_with fail
   refine(qK a x (h.stay i) z).mono ?_;rintro e B d;have o:=d.from_ i;obtain⟨G,p,n,f,_,_,_⟩:=d;unfold iG at f;subst f;go_wp2;exact⟨rfl,o⟩
 . have H:c≠10:=fun e=>by subst e;rw[if_pos rfl] at b;cases b
   obtain rfl:c=0:=by omega
   rw[if_neg (by simp)] at b;have q:(Ch.number 10 9 v).2=F:=by
    cases e:(Ch.number 10 9 v).2 with
    | false=>rfl
    | true=>simp[e] at b
   have L:=xX (g:=g) (m:=m) (t:=t) (mi:=mi) (ln:=ln) (bo:=bo) (fU:=fU) (nb:=nb) a x (h.stay i) z;have N:∀W,Calls prog 173 #[V ⟨v.toArray⟩] W fun e w'=>e=Y (.tuple #[I J (Ch.number 10 9 v).1,.bool F])∧w'=W:=fun W=>by
    have:=nV ⟨v.toArray⟩ W (by show v.toArray.size<=_;rw[bK];unfold maxLen;omega);rw[show(⟨v.toArray⟩:ay).data.toList=v from by simp,q] at this;exact this
   generalize (Ch.number 10 9 v).1=y at *;generalize (⟨v.toArray⟩:ay)=vb at *;go_enter func175,ntmps175;go_wp2_with fail
   refine L.mono ?_;rintro e C ⟨rfl,s⟩;have u:=then_ i s;go_wp2_with fail
   refine(N C).mono ?_;rintro e B ⟨rfl,S⟩;rw[S];go_wp2_with fail
   refine(iJ 400 400 rfl C).mono ?_;rintro e B d;have o:=d.from_ u;obtain⟨G,p,n,f,_,_,_⟩:=d;unfold iG at f;subst f;go_wp2;exact⟨rfl,o⟩
end
section
variable {g:Nat} {m t:ay} {mi ln:Int} {l:au} {fo:ak} {fZ nf:Nat} {bo:ak} {fU nb:Nat} {w:X}
theorem pY.ends {w a b:X}{r:Tu.yA}{e:Ending}(d:Below w.heap.size w a)(c:pY a r e b):Hid (pY w r e b)∧∃(ao:ak) (cap n:Nat),e=iG (r.1:Int) ao n cap:=by
 refine⟨c.from_ d,?_⟩;obtain⟨ao,cap,n,f,_⟩:=c;exact⟨ao,cap,n,f⟩
theorem Tu.Gx {r:av×Nat}(c:r.2≠10){x:Int}(a:Tu.jk r=(x,true)):0<=x:=by
 unfold Tu.jk at a;rw[if_neg c] at a;injection a with d b;rw[cO] at b;rw[<-d];exact(Ch.qc b.1).1
theorem Tu.D7 {r:av×Nat}(a:r.2=10):Tu.jk r=(-1,true):=by unfold Tu.jk;rw[if_pos a]
def Tu.wY (l:au):Prop:=(Tu.one (Tu.vals Tu.Vg l)).2=9∨((Tu.one (Tu.vals Tu.Vg l)).2=0∧(Tu.one (Tu.vals Tu.Vg l)).1≠Tu.yK.data.toList)∨(0<=(Tu.jk (Tu.one (Tu.vals Tu.CV l))).1<->(Tu.one (Tu.vals Tu.Vg l)).2=0)
theorem Sg (h:pE w l fo fZ nf)(c:(Tu.jk (Tu.one (Tu.vals Tu.CV l))).2=F):
 Calls prog 169 #[.agg #[Q (M ⟨g,0,U⟩),V m,V t,I J mi,Z fo nf fZ,I J ln,Z bo nb fU]] w fun e w'=>pY w (Tu.said 400 []) e w':=by
 have a:=(eY _ w).alloc (aM _) (K #[Q (M ⟨g,0,U⟩),V m,V t,I J mi,Z fo nf fZ,I J ln,Z bo nb fU] 148);have j:=uy (g:=g) (m:=m) (t:=t) (mi:=mi) (ln:=ln) (fo:=fo) (fZ:=fZ) (nf:=nf) (bo:=bo) (fU:=fU) (nb:=nb) (w:=w) (eY _ _);go_enter func169,ntmps169;go_wp2_with fail
 refine(DY Tu.ET (by decide) (h.stay a) (by rw[Tu.vS];exact c)).mono ?_;rintro e k d;obtain⟨f,p,i,n,b⟩:=d.ends a;unfold iG at b;subst b;go_wp2;exact⟨rfl,f.o⟩
theorem Si (h:pE w l fo fZ nf)(hx:(Tu.jk (Tu.one (Tu.vals Tu.CV l))).2=true):
 (Tu.wY l->Calls prog 169 #[.agg #[Q (M ⟨g,0,U⟩),V m,V t,I J mi,Z fo nf fZ,I J ln,Z bo nb fU]] w fun e w'=>pY w (Tu.said 400 []) e w') ∧
 (¬Tu.wY l->Calls prog 169 #[.agg #[Q (M ⟨g,0,U⟩),V m,V t,I J mi,Z fo nf fZ,I J ln,Z bo nb fU]] w fun e w'=>e=Y (I J (Tu.jk (Tu.one (Tu.vals Tu.CV l))).1)∧Below w.heap.size w w'):=by
 have T:=(eY _ w).alloc (aM _) (K #[Q (M ⟨g,0,U⟩),V m,V t,I J mi,Z fo nf fZ,I J ln,Z bo nb fU] 148);have HC:∀W,Below (w.alloc (K #[Q (M ⟨g,0,U⟩),V m,V t,I J mi,Z fo nf fZ,I J ln,Z bo nb fU] 148)).heap.size (w.alloc (K #[Q (M ⟨g,0,U⟩),V m,V t,I J mi,Z fo nf fZ,I J ln,Z bo nb fU] 148)) W->W.cell? ⟨w.heap.size,0,U⟩=M (Q (M ⟨g,0,U⟩))∧W.cell? ⟨w.heap.size,1,U⟩=M (V m)∧W.cell? ⟨w.heap.size,2,U⟩=M (V t)∧W.cell? ⟨w.heap.size,3,U⟩=M (I J mi)∧W.cell? ⟨w.heap.size,4,U⟩=M (Z fo nf fZ)∧W.cell? ⟨w.heap.size,5,U⟩=M (I J ln)∧W.cell? ⟨w.heap.size,6,U⟩=M (Z bo nb fU):=fun W p=>uy p;obtain⟨x0,x1,x2,x3,x4,x5,x6⟩:=HC _ (eY _ _);have key:∃(y:Int) (f:Bool),Hid ((Tu.jk (Tu.one (Tu.vals Tu.CV l))).1=(if f then y else -1)∧(f=true->0<=y))∧∀W,Below w.heap.size w W->Calls prog 175 #[.agg #[Q (M ⟨g,0,U⟩),V m,V t,I J mi,Z fo nf fZ,I J ln,Z bo nb fU],V Tu.ET] W fun e w'=>e=Y (.tuple #[I J y,.bool f])∧Below W.heap.size W w':=by
  by_cases hc:(Tu.one (Tu.vals Tu.CV l)).2=10
  . exact⟨0,F,⟨by rw[Tu.D7 hc];rfl,fun e=>by cases e⟩,fun W p=>zw Tu.ET (by decide) (h.stay p) (by rw[Tu.vS];exact hc)⟩
  . generalize hy:Tu.jk (Tu.one (Tu.vals Tu.CV l))=r at *;obtain⟨y,b⟩:=r;simp only at hx;subst hx;exact⟨y,true,⟨rfl,fun _=>Tu.Gx hc hy⟩,fun W p=>Bo Tu.ET (by decide) (h.stay p) (by rw[Tu.vS];exact hc) (by rw[Tu.vS];exact hy)⟩
 obtain⟨y,f,D,Sj⟩:=key;have UD:=Sj _ T;unfold Tu.ET at UD;have hco:=Tu.KL (Tu.vals Tu.Vg l);unfold Tu.wY;generalize hv:Tu.one (Tu.vals Tu.Vg l)=r at *;obtain⟨v,c⟩:=r;have G:Tu.one (Tu.vals Tu.EU l)=(v,c):=by rw[Tu.Wt];exact hv
 simp only at hco;generalize (Tu.jk (Tu.one (Tu.vals Tu.CV l))).1=z at *;rcases hco with rfl | rfl | rfl
 . have B:∀W,Below w.heap.size w W->Calls prog 119 #[.agg #[Q (M ⟨g,0,U⟩),V m,V t,I J mi,Z fo nf fZ,I J ln,Z bo nb fU],V Tu.EU] W fun e w'=>e=Y (.tuple #[V ⟨v.toArray⟩,.bool true])∧Below W.heap.size W w':=fun W p=>xX Tu.EU (by decide) (h.stay p) G;unfold Tu.EU at B;obtain⟨b1,hb1⟩:∃b,((⟨v.toArray⟩:ay).toList==([49]:av))=b:=⟨_,rfl⟩;have e1:v=Tu.yK.data.toList<->b1=true:=by rw[<-hb1];exact Tu.eqV v _
   generalize (⟨v.toArray⟩:ay)=vb at *;refine⟨fun q=>?_,fun s=>?_⟩
   . have zP:=H9 q;go_enter func169,ntmps169;go_wp2_with fail
     refine UD.mono ?_;rintro e C ⟨rfl,a⟩;have d:=then_ T a;obtain⟨x0,x1,x2,x3,x4,x5,x6⟩:=HC _ a;go_wp2_with fail
     refine(B C d).mono ?_;rintro e k ⟨rfl,j⟩;have i:=then_ d j;cases b1 with
     | false =>
       go_wp2_with fail
       refine(iJ 400 400 rfl k).mono ?_;rintro e w9 H;obtain⟨L,ao,N,n,u⟩:=H.ends i;unfold iG at u;subst u;go_wp2;exact⟨rfl,L.o⟩
     | true =>
       go_wp2_with fail
       refine(iF 400 U 0 0 k).mono ?_;rintro e w3 ⟨rfl,x⟩;rw[x];cases f with
       | false =>
         exfalso;have S:=zP.o;have h2:=D.o.1;simp only[dF,if_false] at h2;rcases S with S | S | S
         . cases S
         . exact S.2 (e1.2 (by first | exact rfl | trivial))
         . have:=S.2 (by first | exact rfl | trivial);omega
       | true =>
         go_wp2_with fail
         refine(iJ 400 400 rfl k).mono ?_;rintro e w9 H;obtain⟨L,ao,N,n,u⟩:=H.ends i;unfold iG at u;subst u;go_wp2;exact⟨rfl,L.o⟩
   . have rJ:=H9 s;have hb:b1=true:=by
      cases b1 with
      | true=>rfl
      | false=>exact absurd (R (A ⟨rfl,fun e=>by have:=e1.1 e;cases this⟩)) rJ.o
     subst hb;have ht:f=F:=by
      cases f with
      | false=>rfl
      | true =>
        refine absurd (R (R ⟨fun _=>rfl,fun _=>?_⟩)) rJ.o;have h2:=D.o.1;have h3:=D.o.2 rfl;rw[h2];exact h3
     subst ht;have hz:z=-1:=D.o.1;subst hz;go_enter func169,ntmps169;go_wp2_with fail
     refine UD.mono ?_;rintro e C ⟨rfl,a⟩;have d:=then_ T a;obtain⟨x0,x1,x2,x3,x4,x5,x6⟩:=HC _ a;go_wp2_with fail
     refine(B C d).mono ?_;rintro e k ⟨rfl,j⟩;have i:=then_ d j;go_wp2_with fail
     refine(iF 400 U 0 0 k).mono ?_;rintro e w3 ⟨rfl,x⟩;rw[x];go_wp2_with fail
     refine(iF 400 U 0 0 k).mono ?_;rintro e w3 ⟨rfl,x⟩;rw[x];go_wp2;go_ret;exact⟨rfl,i⟩
 . refine⟨fun _=>?_,fun s=>absurd (A rfl) s⟩;have B:∀W,Below w.heap.size w W->Calls prog 119 #[.agg #[Q (M ⟨g,0,U⟩),V m,V t,I J mi,Z fo nf fZ,I J ln,Z bo nb fU],V Tu.EU] W fun e w'=>pY W (Tu.said 400 []) e w':=fun W p=>qK Tu.EU (by decide) (h.stay p) G;unfold Tu.EU at B;go_enter func169,ntmps169;go_wp2_with fail
   refine UD.mono ?_;rintro e C ⟨rfl,a⟩;have d:=then_ T a;obtain⟨x0,x1,x2,x3,x4,x5,x6⟩:=HC _ a;go_wp2_with fail
   refine(B C d).mono ?_;rintro e w9 H;obtain⟨L,ao,N,n,u⟩:=H.ends d;unfold iG at u;subst u;go_wp2;exact⟨rfl,L.o⟩
 . have B:∀W,Below w.heap.size w W->Calls prog 119 #[.agg #[Q (M ⟨g,0,U⟩),V m,V t,I J mi,Z fo nf fZ,I J ln,Z bo nb fU],V Tu.EU] W fun e w'=>e=Y (.tuple #[V ⟨v.toArray⟩,.bool F])∧Below W.heap.size W w':=fun W p=>Gu Tu.EU (by decide) (h.stay p) G;unfold Tu.EU at B;generalize (⟨v.toArray⟩:ay)=vb at *;cases f with
   | false =>
     have hz:z=-1:=D.o.1;refine⟨fun _=>?_,fun s=>absurd (R (R ⟨fun e=>by omega,fun e=>by cases e⟩)) s⟩;go_enter func169,ntmps169;go_wp2_with fail
     refine UD.mono ?_;rintro e C ⟨rfl,a⟩;have d:=then_ T a;obtain⟨x0,x1,x2,x3,x4,x5,x6⟩:=HC _ a;go_wp2_with fail
     refine(B C d).mono ?_;rintro e k ⟨rfl,j⟩;have i:=then_ d j;go_wp2_with fail
     refine(iF 400 U 0 0 k).mono ?_;rintro e w3 ⟨rfl,x⟩;rw[x];go_wp2_with fail
     refine(iJ 400 400 rfl k).mono ?_;rintro e w9 H;obtain⟨L,ao,N,n,u⟩:=H.ends i;unfold iG at u;subst u;go_wp2;exact⟨rfl,L.o⟩
   | true =>
     have hz:z=y:=D.o.1;subst hz;have hpos:=D.o.2 rfl;refine⟨fun q=>?_,fun _=>?_⟩
     . exfalso;rcases q with e | e | e
       . cases e
       . cases e.1
       . have:=e.1 hpos;cases this
     go_enter func169,ntmps169;go_wp2_with fail
     refine UD.mono ?_;rintro e C ⟨rfl,a⟩;have d:=then_ T a;obtain⟨x0,x1,x2,x3,x4,x5,x6⟩:=HC _ a;go_wp2_with fail
     refine(B C d).mono ?_;rintro e k ⟨rfl,j⟩;have i:=then_ d j;go_wp2_with fail
     refine(iF 400 U 0 0 k).mono ?_;rintro e w3 ⟨rfl,x⟩;rw[x];go_wp2_with fail
     refine(iF 400 U 0 0 k).mono ?_;rintro e w3 ⟨rfl,x⟩;rw[x];go_wp2;go_ret;exact⟨rfl,i⟩
end
def Tu.inside (s:ay):Bool:=decide (7<=s.size)&&decide (s.data.toList.take 7=Tu.kU.data.toList)
theorem yc (s:ay)(w:X)(g:s.size<=100000):Calls prog 116 #[V s,V ⟨#[47,102,105,108,101,115,47]⟩] w fun e w'=>e=Y (.bool (Tu.inside s))∧w'=w:=by
 by_cases d:7<=s.size
 . have a:(7:Int)<=(s.size:Int):=by omega
   obtain⟨b,f⟩:∃b,((s.extract 0 7).toList==([47,102,105,108,101,115,47]:av))=b:=⟨_,rfl⟩;have c:Hid (Tu.inside s=b):=by
    unfold Hid Tu.inside;rw[aI d,Bool.true_and,<-f,Tu.af7];rw[aH,bP,aS];rfl
   rw[c.o];go_enter func116,ntmps116;go_wp2;go_ret;exact⟨rfl,rfl⟩
 . have a:¬(7:Int)<=(s.size:Int):=by omega
   have c:Hid (Tu.inside s=F):=by
    unfold Hid Tu.inside;rw[aJ d,Bool.false_and]
   rw[c.o];go_enter func116,ntmps116;go_wp2;go_ret;exact⟨rfl,rfl⟩
theorem Br (s:ay)(w:X)(a:s.size<=100000):Calls prog 72 #[V s,V ⟨#[47,102,105,108,101,115,47]⟩] w fun e w'=>e=Y (.bool (Tu.inside s))∧w'=w:=by
 have c:=H9 (yc s w a);generalize Tu.inside s=b at *;go_enter func72,ntmps72;go_wp2_with fail
 refine c.o.mono ?_;rintro e f ⟨rfl,d⟩;rw[d];go_wp2;go_ret;exact⟨rfl,rfl⟩
theorem Sm (s:ay)(w:X)(a:s.size<=100000):Calls prog 141 #[V s] w fun e w'=>e=Y (.bool (Tu.ours s))∧w'=w:=by
 have d:=H9 (Br s w a);obtain⟨b,f⟩:∃b,(s.toList==([47,102,105,108,101,115]:av))=b:=⟨_,rfl⟩;have g:s=Tu.rU<->b=true:=by rw[<-f];exact Tu.Yq s Tu.rU _ rfl
 have i:Hid (Tu.ours s=(b||Tu.inside s)):=by
  unfold Hid Tu.ours;rw[show decide (s=Tu.rU)=b from by rw[aH,bP];exact g];rfl
 rw[i.o];generalize Tu.inside s=c at *;cases b with
 | true =>
   go_enter func141,ntmps141;go_wp2;go_ret;exact⟨rfl,rfl⟩
 | false =>
   go_enter func141,ntmps141;go_wp2_with fail
   refine d.o.mono ?_;rintro e k ⟨rfl,j⟩;rw[j];go_wp2;go_ret;exact⟨by simp,rfl⟩
theorem NK (s:ay)(w:X)(d:s.size<=100000)(a:Tu.inside s=true):Calls prog 172 #[V s,V ⟨#[47,102,105,108,101,115,47]⟩] w fun e w'=>e=Y (.tuple #[V (s.extract 7 s.size),.bool true])∧w'=w:=by
 have c:=H9 (yc s w d);rw[a] at c;have j:7<=s.size:=by
  unfold Tu.inside at a;rw[cO,bP] at a;exact a.1
 have f:(7:Int)<=(s.size:Int):=by omega
 have g:Hid (Calls prog 223 #[V s,V ⟨#[47,102,105,108,101,115,47]⟩] w fun e w'=>e=Y (.tuple #[V (s.extract 7 s.size),.bool true])∧w'=w):=by
  unfold Hid;go_enter func223,ntmps223;go_wp2_with fail
  refine c.o.mono ?_;rintro e i ⟨rfl,b⟩;rw[b];go_wp2;go_ret2;exact⟨rfl,rfl⟩
 generalize s.extract 7 s.size=x at *;go_enter func172,ntmps172;go_wp2_with fail
 refine g.o.mono ?_;rintro e i ⟨rfl,b⟩;rw[b];go_wp2;go_ret2;exact⟨rfl,rfl⟩
theorem Sn (s:ay)(w:X)(c:s.size<=100000)(d:Tu.inside s=F):Calls prog 172 #[V s,V ⟨#[47,102,105,108,101,115,47]⟩] w fun e w'=>e=Y (.tuple #[V s,.bool F])∧w'=w:=by
 have b:=H9 (yc s w c);rw[d] at b;have f:Hid (Calls prog 223 #[V s,V ⟨#[47,102,105,108,101,115,47]⟩] w fun e w'=>e=Y (.tuple #[V s,.bool F])∧w'=w):=by
  unfold Hid;go_enter func223,ntmps223;go_wp2_with fail
  refine b.o.mono ?_;rintro e g ⟨rfl,a⟩;rw[a];go_wp2;go_ret2;exact⟨rfl,rfl⟩
 go_enter func172,ntmps172;go_wp2_with fail
 refine f.o.mono ?_;rintro e g ⟨rfl,a⟩;rw[a];go_wp2;go_ret2;exact⟨rfl,rfl⟩
def Wy:ay:=⟨#[67,111,110,116,101,110,116,45,76,101,110,103,116,104]⟩
def Rp.fault (st:Int)(l:au):Nat:=if Rp.word st=[] then 11 else if 16<=l.length then 8 else if (Fd.vals Wy l).length≠0 then 12 else 0
theorem NM (w:X)(st:Int)(l:au)(fo bo:ak)(fZ fU nb:Nat)(q:ji w fo fZ l.length (gG l))(r:l.length<=1000000)(s:∀p∈l,p.1.size<=2000∧p.2.size<=2000):
 Calls prog 188 #[.agg #[I J st,Z fo l.length fZ,Z bo nb fU]] w fun e w'=>e=Y (I J (Rp.fault st l:Nat))∧Below w.heap.size w w':=by
 have t:∀W,lZ w #[I J st,Z fo l.length fZ,Z bo nb fU] 109 W->W.cell? ⟨w.heap.size,0,U⟩=M (I J st)∧W.cell? ⟨w.heap.size,1,U⟩=M (Z fo l.length fZ)∧W.cell? ⟨w.heap.size,2,U⟩=M (Z bo nb fU):=fun W h=>⟨h.cell 0,h.cell 1,h.cell 2⟩;have c:=lZ.made w #[I J st,Z fo l.length fZ,Z bo nb fU] 109;have m:=sS l Wy fo fZ l.length _ (q.stay c.below) rfl r s (by decide);have u:=fun W=>D8 st W;have B:=t _ c;go_enter func188,ntmps188;go_wp2_with fail
 refine(u _).mono ?_;rintro e C ⟨rfl,g⟩;subst g;by_cases a:Rp.word st=[]
 . have b:Hid (Rp.fault st l=11):=by unfold Hid Rp.fault;rw[if_pos a]
   have v:((⟨(Rp.word st).toArray⟩:ay).toList==([]:av))=true:=by rw[Lib.toList_data,a];rfl
   generalize (⟨(Rp.word st).toArray⟩:ay)=x at *;go_wp2;go_ret;exact⟨by rw[b.o];rfl,c.below⟩
 . have v:((⟨(Rp.word st).toArray⟩:ay).toList==([]:av))=F:=by rw[Lib.toList_data,aR];simpa using a
   have f:Hid (Rp.fault st l=if 16<=l.length then 8 else if (Fd.vals Wy l).length≠0 then 12 else 0):=by unfold Hid Rp.fault;rw[if_neg a]
   generalize (⟨(Rp.word st).toArray⟩:ay)=x at *;by_cases d:16<=l.length
   . have b:Rp.fault st l=8:=by rw[f.o,if_pos d]
     have i:decide ((l.length:Int)≥16)=true:=by rw[bP];omega
     go_wp2;go_ret;exact⟨by rw[b];rfl,c.below⟩
   . have i:decide ((l.length:Int)≥16)=F:=by rw[bO];omega
     rw[if_neg d] at f;unfold Wy at m;go_wp2_with fail
     refine m.mono ?_;rintro e D ⟨G,H,rfl,_,j⟩;have n:=c.stay j;rw[show(⟨#[67,111,110,116,101,110,116,45,76,101,110,103,116,104]⟩:ay)=Wy from rfl];generalize (Fd.vals Wy l).length=k at *;by_cases y:0<k
     . have b:Rp.fault st l=12:=by rw[f.o,if_pos (by omega)]
       have z:decide ((k:Int) > 0)=true:=by rw[bP];omega
       go_wp2;go_ret;exact⟨by rw[b];rfl,n.below⟩
     . have b:Rp.fault st l=0:=by rw[f.o,if_neg (by omega)]
       have z:decide ((k:Int) > 0)=F:=by rw[bO];omega
       go_wp2;go_ret;exact⟨by rw[b];rfl,n.below⟩
inductive lu (S:Nat->Prop)(w:X)(g:Nat)(r:Sr.Sh×Tu.yA):Ending->X->Prop
 | ret {ao:ak} {cap n:Nat} {w':X} (hn:r.2.2.length=n) (hO:gH w' w.heap.size 131 2 ao cap n (gG r.2.2)) (hat:gX w' (gB S w) g r.1) (hT:Turns S w w'):lu S w g r (Y (.agg #[I J (r.2.1:Int),Z ao n cap,Z U 0 0])) w'
 | gave {ao:ak} {cap n:Nat} {w':X} (hn:r.2.2.length=n) (hO:gH w' w.heap.size 131 2 ao cap n (gG r.2.2)) (hat:gX w' (gB S w) g r.1) (hT:Turns S w w'):lu S w g r (iG (r.2.1:Int) ao n cap) w'
theorem lu.of {S:Nat->Prop}{w:X}{g:Nat}{r:Sr.Sh×Tu.yA}{e:Ending}{w':X}(h:zo gX S w g r e w'):lu S w g r e w':=by
 obtain⟨⟨i,b,n,rfl,c,d⟩,a,f⟩:=h;exact .ret c d a f
structure wu (w0 w:X)(S:Nat->Prop):Prop where
 pow:kD w0
 qy:Below w0.heap.size w0 w
 far:∀k,S k->w0.heap.size<=k
section
variable {S S':Nat->Prop} {w0 w W W':X} {g:Nat} {bs:List Obj} {s:Sr.Sh}
theorem iM.new {O:Wm}(h:iM O S w g bs s S' W):∀k,S' k->gB S w k:=fun k e=>by
 rcases h.ap k e with a | a
 . exact A a.1
 . exact R (by omega)
theorem iM.pow {O:Wm}(h:iM O S w g bs s S' W)(p:wu w0 w S):kD W:=p.pow.stay (p.qy.trans (h.tu.below (fun k e=>p.far k e.1) p.qy.size))
theorem iM.fell (h:iM gX S w g bs s S' W){a:Tu.yA}{e:Ending}(c:pY W a e W'):Hid (lu S w g (s,a) e W')∧∃(ao:ak) (cap n:Nat),e=iG (a.1:Int) ao n cap:=by
 obtain⟨ao,cap,n,rfl,d,f,i⟩:=c;have b:=h.stay iy i;exact⟨.gave d (f.mono (dB (dG _ _) h.sz)) (b.sh.mono (fun k _ e=>b.new k e)) (b.tu.mono (fun k e=>e.1)),ao,cap,n,rfl⟩
theorem iM.Lj (h:iM gX S w g bs s S' W){r:Sr.Sh×Tu.yA}{ao:ak}{cap n:Nat}(c:r.2.2.length=n)(d:gH W' W.heap.size 131 2 ao cap n (gG r.2.2))(a:gX W' (gB S' W) g r.1)(f:Turns S' W W'):lu S w g r (iG (r.2.1:Int) ao n cap) W':=by
 have b:=h.did a f;exact .gave c (d.mono (dB (dG _ _) h.sz)) (b.sh.mono (fun k _ e=>b.new k e)) (b.tu.mono (fun k e=>e.1))
end
section
variable {g:Nat} {m t:ay} {mi ln:Int} {l:au} {fo:ak} {fZ nf:Nat} {bo:ak} {fU nb:Nat} {w:X} {S:Nat->Prop} {s:Sr.Sh}
theorem QC (h:gX w S g s)(a:Obj):iM gX S w g [K #[Q (M ⟨g,0,U⟩),V m,V t,I J mi,Z fo nf fZ,I J ln,Z bo nb fU] 148 (0,0),a] s (fun k=>S k∧k<w.heap.size) ((w.alloc (K #[Q (M ⟨g,0,U⟩),V m,V t,I J mi,Z fo nf fZ,I J ln,Z bo nb fU] 148)).alloc a):=by
 have b:(w.alloc (K #[Q (M ⟨g,0,U⟩),V m,V t,I J mi,Z fo nf fZ,I J ln,Z bo nb fU] 148)).heap.size=w.heap.size+1:=fG ..;exact((iM.start iy h).box iy rfl (fun k e=>e.2) _).box iy b (fun k e=>by rw[b];have:=e.2;omega) _
theorem iM.ex {bs:List Obj}{S':Nat->Prop}{a:Sr.Sh}{W:X}(h:iM gX S w g (K #[Q (M ⟨g,0,U⟩),V m,V t,I J mi,Z fo nf fZ,I J ln,Z bo nb fU] 148 (0,0)::bs) a S' W):W.cell? ⟨w.heap.size,0,U⟩=M (Q (M ⟨g,0,U⟩))∧W.cell? ⟨w.heap.size,1,U⟩=M (V m)∧W.cell? ⟨w.heap.size,2,U⟩=M (V t)∧W.cell? ⟨w.heap.size,3,U⟩=M (I J mi)∧W.cell? ⟨w.heap.size,4,U⟩=M (Z fo nf fZ)∧W.cell? ⟨w.heap.size,5,U⟩=M (I J ln)∧W.cell? ⟨w.heap.size,6,U⟩=M (Z bo nb fU):=by
 have r:=h.row 0 rfl;exact⟨eZ W _ 0 _ _ _ r,eZ W _ 1 _ _ _ r,eZ W _ 2 _ _ _ r,eZ W _ 3 _ _ _ r,eZ W _ 4 _ _ _ r,eZ W _ 5 _ _ _ r,eZ W _ 6 _ _ _ r⟩
theorem BA (h:gX w S g s)(ok:Sr.Ok s)(hP:kD w)(ht:t.size<=100000):
 (Tu.zV s.h t=U->Calls prog 123 #[.agg #[Q (M ⟨g,0,U⟩),V m,V t,I J mi,Z fo nf fZ,I J ln,Z bo nb fU]] w fun e w'=>pY w (Tu.said 404 []) e w') ∧
 (∀u,Tu.zV s.h t=M u->Calls prog 123 #[.agg #[Q (M ⟨g,0,U⟩),V m,V t,I J mi,Z fo nf fZ,I J ln,Z bo nb fU]] w fun e w'=>∃(ao:ak) (cap:Nat),e=Y (.agg #[I J u.id,I J u.size,V u.note,Z ao u.bytes.length cap,I J u.sent])∧Below w.heap.size w w'):=by
 have T2:iM gX S w g [K #[Q (M ⟨g,0,U⟩),V m,V t,I J mi,Z fo nf fZ,I J ln,Z bo nb fU] 148 (0,0),K #[I J 0,I J 0,V ⟨#[]⟩,Z U 0 0,I J 0] 92] s (fun k=>S k∧k<w.heap.size) ((w.alloc (K #[Q (M ⟨g,0,U⟩),V m,V t,I J mi,Z fo nf fZ,I J ln,Z bo nb fU] 148)).alloc (K #[I J 0,I J 0,V ⟨#[]⟩,Z U 0 0,I J 0] 92)):=QC h _;have z:Below w.heap.size w ((w.alloc (K #[Q (M ⟨g,0,U⟩),V m,V t,I J mi,Z fo nf fZ,I J ln,Z bo nb fU] 148)).alloc (K #[I J 0,I J 0,V ⟨#[]⟩,Z U 0 0,I J 0] 92)):=then_ ((eY _ w).alloc (aM _) _) ((eY _ _).alloc (aM _) _);have HC:∀W,iM gX S w g [K #[Q (M ⟨g,0,U⟩),V m,V t,I J mi,Z fo nf fZ,I J ln,Z bo nb fU] 148 (0,0),K #[I J 0,I J 0,V ⟨#[]⟩,Z U 0 0,I J 0] 92] s (fun k=>S k∧k<w.heap.size) W->W.cell? ⟨w.heap.size,0,U⟩=M (Q (M ⟨g,0,U⟩))∧W.cell? ⟨w.heap.size,1,U⟩=M (V m)∧W.cell? ⟨w.heap.size,2,U⟩=M (V t)∧W.cell? ⟨w.heap.size,3,U⟩=M (I J mi)∧W.cell? ⟨w.heap.size,4,U⟩=M (Z fo nf fZ)∧W.cell? ⟨w.heap.size,5,U⟩=M (I J ln)∧W.cell? ⟨w.heap.size,6,U⟩=M (Z bo nb fU):=fun W L=>L.ex;obtain⟨x0,x1,x2,x3,x4,x5,x6⟩:=HC _ T2;obtain⟨gs,gl,lo,lca,P,hI⟩:=h;have HG:∀W,Below w.heap.size w W->W.cell? ⟨g,0,U⟩=M (Q (M ⟨gs,0,U⟩))∧gL W P gs s.h:=fun W L=>⟨eZ W _ 0 _ _ _ (hI.stay L).row,(hI.stay L).sQ⟩;cases q:Tu.inside t with
 | false =>
   have B:∀W,Calls prog 172 #[V t,V ⟨#[47,102,105,108,101,115,47]⟩] W fun e w'=>e=Y (.tuple #[V t,.bool F])∧w'=W:=fun W=>Sn t W ht q;have vW:∀W,Calls prog 173 #[V t] W fun e w'=>e=Y (.tuple #[I J (Ch.number 10 9 t.data.toList).1,.bool (Ch.number 10 9 t.data.toList).2])∧w'=W:=fun W=>nV t W (by unfold maxLen;omega);have c:Tu.zV s.h t=U:=Tu.Qs (fun x=>by
    unfold Tu.inside at q;rw[aI (by omega:7<=t.size),Bool.true_and,bO] at q;exact q x.2.1) s.h
   refine⟨fun _=>?_,fun u r=>by rw[c] at r;cases r⟩;generalize Ch.number 10 9 t.data.toList=rn at *;obtain⟨n,okn⟩:=rn;go_enter func123,ntmps123;go_wp2_with fail
   refine(B _).mono ?_;rintro e C ⟨rfl,a⟩;rw[a];go_wp2_with fail
   refine(vW _).mono ?_;rintro e C ⟨rfl,a⟩;rw[a];go_wp2_with fail
   refine(iJ 404 404 rfl _).mono ?_;rintro e w9 T;obtain⟨MF,jv,gU,n9,G⟩:=T.ends z;unfold iG at G;subst G;go_wp2;exact⟨rfl,MF.o⟩
 | true =>
   have B:∀W,Calls prog 172 #[V t,V ⟨#[47,102,105,108,101,115,47]⟩] W fun e w'=>e=Y (.tuple #[V (t.extract 7 t.size),.bool true])∧w'=W:=fun W=>NK t W ht q;have vW:∀W,Calls prog 173 #[V (t.extract 7 t.size)] W fun e w'=>e=Y (.tuple #[I J (Ch.number 10 9 (t.data.toList.drop 7)).1,.bool (Ch.number 10 9 (t.data.toList.drop 7)).2])∧w'=W:=fun W=>by
    have:=nV (t.extract 7 t.size) W (by rw[ByteArray.size_extract];unfold maxLen;omega);rw[Tu.aak] at this;exact this
   have hin2:t.data.toList.take 7=Tu.kU.data.toList:=by
    unfold Tu.inside at q;rw[cO,bP,bP] at q;exact q.2
   have hsm:(Ch.number 10 9 (t.data.toList.drop 7)).2=true->0<=(Ch.number 10 9 (t.data.toList.drop 7)).1∧(Ch.number 10 9 (t.data.toList.drop 7)).1<1000000000∧7<t.size:=fun e=>⟨(Ch.qc e).1,(Ch.qc e).2,by
    rcases aT 7 t.size with h | h
    . exact h
    . exfalso;rw[aK (by rw[aO];exact h)] at e;revert e;decide⟩
   have hno:((Ch.number 10 9 (t.data.toList.drop 7)).2=F∨Ch.iV 8 (Ch.number 10 9 (t.data.toList.drop 7)).1.toNat≠t.data.toList.drop 7)->Tu.zV s.h t=U:=fun e=>Tu.Qs (fun x=>e.elim (fun e=>by have h3:=x.2.2.1;rw[e] at h3;cases h3) (fun e=>e x.2.2.2)) s.h;have hye:=fun(h7:7<t.size) (e:(Ch.number 10 9 (t.data.toList.drop 7)).2=true) (e2:Ch.iV 8 (Ch.number 10 9 (t.data.toList.drop 7)).1.toNat=t.data.toList.drop 7)=>Tu.Ws (t:=t) ⟨h7,hin2,e,e2⟩ s.h;generalize Ch.number 10 9 (t.data.toList.drop 7)=rn at *;obtain⟨n,okn⟩:=rn;simp only at hsm hno hye;cases okn with
   | false =>
     have c:=hno (A rfl);refine⟨fun _=>?_,fun u r=>by rw[c] at r;cases r⟩;generalize t.extract 7 t.size=nm at *;go_enter func123,ntmps123;go_wp2_with fail
     refine(B _).mono ?_;rintro e C ⟨rfl,a⟩;rw[a];go_wp2_with fail
     refine(vW _).mono ?_;rintro e C ⟨rfl,a⟩;rw[a];go_wp2_with fail
     refine(iJ 404 404 rfl _).mono ?_;rintro e w9 T;obtain⟨MF,jv,gU,n9,G⟩:=T.ends z;unfold iG at G;subst G;go_wp2;exact⟨rfl,MF.o⟩
   | true =>
     obtain⟨hn0,hn1,h7⟩:=hsm rfl;have HIt:∀W,Below w.heap.size w W->Calls prog 151 #[I J n] W fun e w'=>e=Y (V (Tu.dec n.toNat))∧Below W.heap.size W w':=fun W L=>by
      have:=pz n.toNat (by omega) W (hP.stay L);rw[show((n.toNat:Nat):Int)=n from by omega] at this;exact this
     have HI2:=HIt _ z;obtain⟨bs,hbs⟩:∃b,((Tu.dec n.toNat).toList==(t.extract 7 t.size).toList)=b:=⟨_,rfl⟩;have eS:Ch.iV 8 n.toNat=t.data.toList.drop 7<->bs=true:=by
      rw[<-hbs,Lib.toList_data,Lib.toList_data,Tu.aak,aS];rfl
     generalize Tu.dec n.toNat=nd at *;cases bs with
     | false =>
       have c:=hno (R (fun e=>by have:=eS.1 e;cases this));refine⟨fun _=>?_,fun u r=>by rw[c] at r;cases r⟩;generalize t.extract 7 t.size=nm at *;go_enter func123,ntmps123;go_wp2_with fail
       refine(B _).mono ?_;rintro e C ⟨rfl,a⟩;rw[a];go_wp2_with fail
       refine(vW _).mono ?_;rintro e C ⟨rfl,a⟩;rw[a];go_wp2_with fail
       refine HI2.mono ?_;rintro e w3 ⟨rfl,y⟩;have j:=then_ z y;go_wp2_with fail
       refine(iJ 404 404 rfl _).mono ?_;rintro e w9 T;obtain⟨MF,jv,gU,n9,G⟩:=T.ends j;unfold iG at G;subst G;go_wp2;exact⟨rfl,MF.o⟩
     | true =>
       have r:=hye h7 rfl (eS.2 rfl);generalize t.extract 7 t.size=nm at *;cases hp:Sp.place s.h.l n with
       | none =>
         rw[hp] at r;simp only at r;have Yw:∀W,Below w.heap.size w W->Calls prog 31 #[Q (M ⟨gs,0,U⟩),I J n] W fun e w'=>e=Y (.tuple #[.agg #[I J 0,I J 0,V ⟨#[]⟩,Z U 0 0,I J 0],.bool F])∧Below W.heap.size W w':=fun W L=>GK s.h P gs n W (HG W L).2 ok.h hp;refine⟨fun _=>?_,fun u d=>by rw[r] at d;cases d⟩;go_enter func123,ntmps123;go_wp2_with fail
         refine(B _).mono ?_;rintro e C ⟨rfl,a⟩;rw[a];go_wp2_with fail
         refine(vW _).mono ?_;rintro e C ⟨rfl,a⟩;rw[a];go_wp2_with fail
         refine HI2.mono ?_;rintro e w3 ⟨rfl,y⟩;have j:=then_ z y;have H3:=T2.stay iy y;obtain⟨x0,x1,x2,x3,x4,x5,x6⟩:=HC _ H3;have g0:=(HG _ j).1;go_wp2_with fail
         refine(iF 404 U 0 0 _).mono ?_;rintro e C ⟨rfl,a⟩;rw[a];go_wp2_with fail
         refine(Yw _ j).mono ?_;rintro e f ⟨rfl,N⟩;have kr:=then_ (then_ j N) ((eY _ f).alloc (aM _) (K #[I J 0,I J 0,V ⟨#[]⟩,Z U 0 0,I J 0] 92));go_wp2_with fail
         refine(iJ 404 404 rfl _).mono ?_;rintro e w9 T;obtain⟨MF,jv,gU,n9,G⟩:=T.ends kr;unfold iG at G;subst G;go_wp2;exact⟨rfl,MF.o⟩
       | some i =>
         rw[hp] at r;simp only at r;have hi:=Sp.lg hp;rw[dz hi] at r;have Yw:∀W,Below w.heap.size w W->Calls prog 31 #[Q (M ⟨gs,0,U⟩),I J n] W fun e w'=>∃ao cap,e=Y (.tuple #[.agg #[I J s.h.l[i].id,I J s.h.l[i].size,V s.h.l[i].note,Z ao s.h.l[i].bytes.length cap,I J s.h.l[i].sent],.bool true])∧gN w' ao cap s.h.l[i].bytes∧Below W.heap.size W w':=fun W L=>Al s.h P gs n i W (HG W L).2 ok.h hp hi;generalize s.h.l[i]=u0 at *;refine⟨fun d=>(by rw[r] at d;cases d),fun u d=>?_⟩;rw[r] at d;injection d with d;subst d;generalize u0.bytes.length=D at *;go_enter func123,ntmps123;go_wp2_with fail
         refine(B _).mono ?_;rintro e C ⟨rfl,a⟩;rw[a];go_wp2_with fail
         refine(vW _).mono ?_;rintro e C ⟨rfl,a⟩;rw[a];go_wp2_with fail
         refine HI2.mono ?_;rintro e w3 ⟨rfl,y⟩;have j:=then_ z y;have H3:=T2.stay iy y;obtain⟨x0,x1,x2,x3,x4,x5,x6⟩:=HC _ H3;have g0:=(HG _ j).1;go_wp2_with fail
         refine(iF 404 U 0 0 _).mono ?_;rintro e C ⟨rfl,a⟩;rw[a];go_wp2_with fail
         refine(Yw _ j).mono ?_;rintro e f ⟨ao,cap,rfl,_,N⟩;have hb5:=(eY _ f).alloc (aM _) (K #[I J u0.id,I J u0.size,V u0.note,Z ao D cap,I J u0.sent] 92);have nX:=then_ (then_ j N) hb5;have H:=((H3.stay iy N).stay iy hb5).row 1 rfl;have v0:(f.alloc (K #[I J u0.id,I J u0.size,V u0.note,Z ao D cap,I J u0.sent] 92)).cell? ⟨f.heap.size,0,U⟩=M (I J u0.id):=World.cell?_alloc_mark f _ _ _ 0;have v1:(f.alloc (K #[I J u0.id,I J u0.size,V u0.note,Z ao D cap,I J u0.sent] 92)).cell? ⟨f.heap.size,1,U⟩=M (I J u0.size):=World.cell?_alloc_mark f _ _ _ 1;have v2:(f.alloc (K #[I J u0.id,I J u0.size,V u0.note,Z ao D cap,I J u0.sent] 92)).cell? ⟨f.heap.size,2,U⟩=M (V u0.note):=World.cell?_alloc_mark f _ _ _ 2;have v3:(f.alloc (K #[I J u0.id,I J u0.size,V u0.note,Z ao D cap,I J u0.sent] 92)).cell? ⟨f.heap.size,3,U⟩=M (Z ao D cap):=World.cell?_alloc_mark f _ _ _ 3;have v4:(f.alloc (K #[I J u0.id,I J u0.size,V u0.note,Z ao D cap,I J u0.sent] 92)).cell? ⟨f.heap.size,4,U⟩=M (I J u0.sent):=World.cell?_alloc_mark f _ _ _ 4;have z0:=eZ _ _ 0 _ _ _ H;have z1:=eZ _ _ 1 _ _ _ H;have z2:=eZ _ _ 2 _ _ _ H;have z3:=eZ _ _ 3 _ _ _ H;have z4:=eZ _ _ 4 _ _ _ H
         have y0:=fq _ _ 0 _ _ H;have y1:=fq _ _ 1 _ _ H;have y2:=fq _ _ 2 _ _ H;have y3:=fq _ _ 3 _ _ H;have y4:=fq _ _ 4 _ _ H
         simp at z0 z1 z2 z3 z4;go_upto_region 5 with fail
         generalize (f.alloc (K #[I J u0.id,I J u0.size,V u0.note,Z ao D cap,I J u0.sent] 92))=w5 at *;generalize f.heap.size=k4 at *;go_wp2_with fail
         refine(iF 404 U 0 0 _).mono ?_;rintro e C ⟨rfl,a⟩;rw[a];go_wp2;have hb6:=((((nX.setCell (p:=⟨w.heap.size+1,0,U⟩) (dG _ _) (I J u0.id)).setCell (p:=⟨w.heap.size+1,1,U⟩) (dG _ _) (I J u0.size)).setCell (p:=⟨w.heap.size+1,2,U⟩) (dG _ _) (V u0.note)).setCell (p:=⟨w.heap.size+1,3,U⟩) (dG _ _) (Z ao D cap)).setCell (p:=⟨w.heap.size+1,4,U⟩) (dG _ _) (I J u0.sent);have Bh:=fu _ _ 4 _ _ (I J u0.sent) (fu _ _ 3 _ _ (Z ao D cap) (fu _ _ 2 _ _ (V u0.note) (fu _ _ 1 _ _ (I J u0.size) (fu _ _ 0 _ _ (I J u0.id) H))));generalize (((((w5.setCell ⟨w.heap.size+1,0,U⟩ (Value.int J u0.id)).setCell ⟨w.heap.size+1,1,U⟩ (Value.int J u0.size)).setCell ⟨w.heap.size+1,2,U⟩ (Value.string u0.note)).setCell ⟨w.heap.size+1,3,U⟩ (Value.slice ao D cap)).setCell ⟨w.heap.size+1,4,U⟩ (Value.int J u0.sent))=w6 at hb6 Bh ⊢;have r0:=eZ w6 _ 0 _ _ _ Bh;have r1:=eZ w6 _ 1 _ _ _ Bh;have r2:=eZ w6 _ 2 _ _ _ Bh;have r3:=eZ w6 _ 3 _ _ _ Bh;have r4:=eZ w6 _ 4 _ _ _ Bh;exact fI (v:=.agg #[I J u0.id,I J u0.size,V u0.note,Z ao D cap,I J u0.sent]) (by simp[results,results123,go_sem,r0,r1,r2,r3,r4]) rfl ⟨ao,cap,rfl,hb6⟩
end
section
variable {g:Nat} {m t:ay} {mi ln:Int} {l:au} {fo:ak} {fZ nf:Nat} {bo:ak} {fU nb:Nat} {w:X}
theorem LB (h:pE w l fo fZ nf)(c:(Tu.one (Tu.vals Tu.Mx l)).2=9):
 Calls prog 174 #[.agg #[Q (M ⟨g,0,U⟩),V m,V t,I J mi,Z fo nf fZ,I J ln,Z bo nb fU]] w fun e w'=>pY w (Tu.said 400 []) e w':=by
 have a:=(eY _ w).alloc (aM _) (K #[Q (M ⟨g,0,U⟩),V m,V t,I J mi,Z fo nf fZ,I J ln,Z bo nb fU] 148);have j:=uy (g:=g) (m:=m) (t:=t) (mi:=mi) (ln:=ln) (fo:=fo) (fZ:=fZ) (nf:=nf) (bo:=bo) (fU:=fU) (nb:=nb) (w:=w) (eY _ _);go_enter func174,ntmps174;go_wp2_with fail
 refine(qK Tu.fCT (by decide) (h.stay a) (v:=(Tu.one (Tu.vals Tu.Mx l)).1) (by rw[Tu.DX,<-c])).mono ?_;rintro e k d;obtain⟨f,p,i,n,b⟩:=d.ends a;unfold iG at b;subst b;go_wp2;exact⟨rfl,f.o⟩
theorem OL (h:pE w l fo fZ nf)(C:(Tu.one (Tu.vals Tu.Mx l)).2≠9):
 (Tu.CW (Tu.one (Tu.vals Tu.Mx l)).1=F->Calls prog 174 #[.agg #[Q (M ⟨g,0,U⟩),V m,V t,I J mi,Z fo nf fZ,I J ln,Z bo nb fU]] w fun e w'=>pY w (Tu.said 415 []) e w') ∧
 (Tu.CW (Tu.one (Tu.vals Tu.Mx l)).1=true->Calls prog 174 #[.agg #[Q (M ⟨g,0,U⟩),V m,V t,I J mi,Z fo nf fZ,I J ln,Z bo nb fU]] w fun e w'=>e=Y (.tuple #[])∧Below w.heap.size w w'):=by
 have q:=(eY _ w).alloc (aM _) (K #[Q (M ⟨g,0,U⟩),V m,V t,I J mi,Z fo nf fZ,I J ln,Z bo nb fU] 148);have x0:=uy (g:=g) (m:=m) (t:=t) (mi:=mi) (ln:=ln) (fo:=fo) (fZ:=fZ) (nf:=nf) (bo:=bo) (fU:=fU) (nb:=nb) (w:=w) (eY _ _);have L:=h.val Tu.Mx;generalize N:Tu.one (Tu.vals Tu.Mx l)=r at *;obtain⟨v,c⟩:=r;simp only at L C;have s:=oH (g:=g) (m:=m) (t:=t) (mi:=mi) (ln:=ln) (bo:=bo) (fU:=fU) (nb:=nb) Tu.fCT (by decide) (h.stay q) (by rw[Tu.DX];exact N) C;unfold Tu.fCT at s;have D:∀W,Calls prog 225 #[V ⟨v.toArray⟩] W fun e w'=>uz W (Pm.jL v) e w':=fun W=>by
  have:=xZ ⟨v.toArray⟩ W (by show v.toArray.size<=_;rw[bK];omega);rw[show(⟨v.toArray⟩:ay).data.toList=v from by simp] at this;exact this
 have n:∀word a code,Wx (Pm.jL v) word a code->(Tu.CW v=(word.toList==([97,112,112,108,105,99,97,116,105,111,110,47,111,102,102,115,101,116,43,111,99,116,101,116,45,115,116,114,101,97,109]:av))):=fun word a code b=>by
  rw[aH,aS,Lib.toList_data];unfold Tu.CW;cases G:Pm.jL v with
  | inl c =>
    rw[G] at b;obtain⟨S,u,T⟩:=b;subst u;constructor
    . intro e;cases e
    . intro e;simp at e
  | inr x =>
    rw[G] at b;obtain⟨S,u,T⟩:=b;simp only[bP];rw[u];rfl
 generalize decide (c=0)=cb at *;generalize (⟨v.toArray⟩:ay)=vb at *;generalize Tu.CW v=off at *;generalize Pm.jL v=md at *;refine⟨fun p=>?_,fun p=>?_⟩
 . subst p;go_enter func174,ntmps174;go_wp2_with fail
   refine s.mono ?_;rintro e y ⟨rfl,d⟩;have f:=then_ q d;go_wp2_with fail
   refine(D y).mono ?_;rintro e z ⟨word,a,B,i,code,rfl,b,_,j⟩;have p:=(n _ _ _ b).symm;have k:=then_ (then_ f j) ((eY _ z).alloc (aM _) (K #[V word,Z B a.length i] 206));generalize a.length=np at *;go_wp2_with fail
   refine(iJ 415 415 rfl _).mono ?_;rintro e w9 hG;obtain⟨HG,jv,gU,n9,H⟩:=hG.ends k;unfold iG at H;subst H;go_wp2;exact⟨rfl,HG.o⟩
 . subst p;go_enter func174,ntmps174;go_wp2_with fail
   refine s.mono ?_;rintro e y ⟨rfl,d⟩;have f:=then_ q d;go_wp2_with fail
   refine(D y).mono ?_;rintro e z ⟨word,a,B,i,code,rfl,b,_,j⟩;have p:=(n _ _ _ b).symm;have k:=then_ (then_ f j) ((eY _ z).alloc (aM _) (K #[V word,Z B a.length i] 206));generalize a.length=np at *;go_wp2_with fail
   refine(iF 415 U 0 0 _).mono ?_;rintro e w9 ⟨rfl,hw⟩;rw[hw];go_wp2;go_end0
   exact⟨rfl,k⟩
theorem uG (f a sent x d:Int)(b:ay)(uo:ak)(un gQ:Nat)(w:X)(D:-1<=a):
 (0<=a->x≠a->Calls prog 176 #[.agg #[I J f,I J a,V b,Z uo un gQ,I J sent],I J x,I J d] w fun e w'=>pY w (Tu.said 400 []) e w') ∧
 (a<0->(2000<x∨x<d)->Calls prog 176 #[.agg #[I J f,I J a,V b,Z uo un gQ,I J sent],I J x,I J d] w fun e w'=>pY w (Tu.said 413 []) e w') ∧
 ((0<=a∧x=a)∨(a<0∧¬(2000<x∨x<d))->Calls prog 176 #[.agg #[I J f,I J a,V b,Z uo un gQ,I J sent],I J x,I J d] w fun e w'=>e=Y (.tuple #[])∧Below w.heap.size w w'):=by
 have i:=(eY _ w).alloc (aM _) (K #[I J f,I J a,V b,Z uo un gQ,I J sent] 92);have G:(w.alloc (K #[I J f,I J a,V b,Z uo un gQ,I J sent] 92)).cell? ⟨w.heap.size,1,U⟩=M (I J a):=World.cell?_alloc_mark w _ _ _ 1;refine⟨fun q r=>?_,fun q y=>?_,fun s=>?_⟩
 . have n:(a != -1)=true:=by rw[cK];omega
   have u:(x==a)=F:=by rw[aR];exact r
   go_enter func176,ntmps176;go_wp2_with fail
   refine(iJ 400 400 rfl _).mono ?_;rintro e p j;obtain⟨k,z,B,C,c⟩:=j.ends i;unfold iG at c;subst c;go_wp2;exact⟨rfl,k.o⟩
 . obtain rfl:a=-1:=by omega
   by_cases H:2000<x
   . have n:decide (x<=2000)=F:=by rw[bO];omega
     go_enter func176,ntmps176;go_wp2_with fail
     refine(iJ 413 413 rfl _).mono ?_;rintro e p j;obtain⟨k,z,B,C,c⟩:=j.ends i;unfold iG at c;subst c;go_wp2;exact⟨rfl,k.o⟩
   . have n:decide (x<=2000)=true:=by rw[bP];omega
     have u:decide (x≥d)=F:=by rw[bO];omega
     go_enter func176,ntmps176;go_wp2_with fail
     refine(iJ 413 413 rfl _).mono ?_;rintro e p j;obtain⟨k,z,B,C,c⟩:=j.ends i;unfold iG at c;subst c;go_wp2;exact⟨rfl,k.o⟩
 . rcases s with ⟨q,rfl⟩ | ⟨q,L⟩
   . have n:(x != -1)=true:=by rw[cK];omega
     have u:(x==x)=true:=by simp
     go_enter func176,ntmps176;go_wp2_with fail
     refine(iF 400 U 0 0 _).mono ?_;rintro e p ⟨rfl,v⟩;rw[v];go_wp2;first | go_end0 | refine fI (results_none rfl _ _ _) rfl ?_
     exact⟨rfl,i⟩
   . obtain rfl:a=-1:=by omega
     have n:decide (x<=2000)=true:=by rw[bP];omega
     have u:decide (x≥d)=true:=by rw[bP];omega
     go_enter func176,ntmps176;go_wp2_with fail
     refine(iF 413 U 0 0 _).mono ?_;rintro e p ⟨rfl,v⟩;rw[v];go_wp2;go_end0
     exact⟨rfl,i⟩
end
section
variable {g:Nat} {m t:ay} {mi ln:Int} {l:au} {fo:ak} {fZ nf:Nat} {bo:ak} {fU nb:Nat} {w w0:X} {S:Nat->Prop} {s:Sr.Sh}
theorem QH (h:gX w S g s)(a b:Obj):iM gX S w g [K #[Q (M ⟨g,0,U⟩),V m,V t,I J mi,Z fo nf fZ,I J ln,Z bo nb fU] 148 (0,0),a,b] s (fun k=>S k∧k<w.heap.size) (((w.alloc (K #[Q (M ⟨g,0,U⟩),V m,V t,I J mi,Z fo nf fZ,I J ln,Z bo nb fU] 148)).alloc a).alloc b):=by
 have c:((w.alloc (K #[Q (M ⟨g,0,U⟩),V m,V t,I J mi,Z fo nf fZ,I J ln,Z bo nb fU] 148)).alloc a).heap.size=w.heap.size+2:=by rw[fG,fG]
 exact(QC h a).box iy c (fun k e=>by rw[c];have:=e.2;omega) _
theorem iM.up {bs:List Obj}{S':Nat->Prop}{a:Sr.Sh}{W:X}{u:Sp.Up}{uo:ak}{un gQ:Nat}(h:iM gX S w g (K #[Q (M ⟨g,0,U⟩),V m,V t,I J mi,Z fo nf fZ,I J ln,Z bo nb fU] 148 (0,0)::K #[I J u.id,I J u.size,V u.note,Z uo un gQ,I J u.sent] 92 (0,0)::bs) a S' W):W.cell? ⟨w.heap.size+1,0,U⟩=M (I J u.id)∧W.cell? ⟨w.heap.size+1,1,U⟩=M (I J u.size)∧W.cell? ⟨w.heap.size+1,2,U⟩=M (V u.note)∧W.cell? ⟨w.heap.size+1,3,U⟩=M (Z uo un gQ)∧W.cell? ⟨w.heap.size+1,4,U⟩=M (I J u.sent):=by
 have r:=h.row 1 rfl;exact⟨eZ W _ 0 _ _ _ r,eZ W _ 1 _ _ _ r,eZ W _ 2 _ _ _ r,eZ W _ 3 _ _ _ r,eZ W _ 4 _ _ _ r⟩
theorem BI (h:gX w S g s)(ok:Sr.Ok s)(u:Sp.Up)(uo:ak)(un gQ:Nat):
 Calls prog 126 #[.agg #[Q (M ⟨g,0,U⟩),V m,V t,I J mi,Z fo nf fZ,I J ln,Z bo nb fU],.agg #[I J u.id,I J u.size,V u.note,Z uo un gQ,I J u.sent]] w fun e w'=>lu S w g (Sr.sync (Sr.drop s u.id).1,Tu.said 204 []) e w':=by
 have c:iM gX S w g [K #[Q (M ⟨g,0,U⟩),V m,V t,I J mi,Z fo nf fZ,I J ln,Z bo nb fU] 148 (0,0),K #[I J u.id,I J u.size,V u.note,Z uo un gQ,I J u.sent] 92 (0,0),K #[I J 0,Z U 0 0,Z U 0 0] 109 (0,0)] s (fun k=>S k∧k<w.heap.size) (((w.alloc (K #[Q (M ⟨g,0,U⟩),V m,V t,I J mi,Z fo nf fZ,I J ln,Z bo nb fU] 148)).alloc (K #[I J u.id,I J u.size,V u.note,Z uo un gQ,I J u.sent] 92)).alloc (K #[I J 0,Z U 0 0,Z U 0 0] 109)):=QH h _ _;have j:∀W n p,iM gX S w g [K #[Q (M ⟨g,0,U⟩),V m,V t,I J mi,Z fo nf fZ,I J ln,Z bo nb fU] 148 (0,0),K #[I J u.id,I J u.size,V u.note,Z uo un gQ,I J u.sent] 92 (0,0),K #[I J 0,Z U 0 0,Z U 0 0] 109 (0,0)] n p W->W.cell? ⟨w.heap.size,0,U⟩=M (Q (M ⟨g,0,U⟩))∧W.cell? ⟨w.heap.size,1,U⟩=M (V m)∧W.cell? ⟨w.heap.size,2,U⟩=M (V t)∧W.cell? ⟨w.heap.size,3,U⟩=M (I J mi)∧W.cell? ⟨w.heap.size,4,U⟩=M (Z fo nf fZ)∧W.cell? ⟨w.heap.size,5,U⟩=M (I J ln)∧W.cell? ⟨w.heap.size,6,U⟩=M (Z bo nb fU):=fun W n p C=>C.ex;obtain⟨D,x1,x2,x3,x4,x5,x6⟩:=j _ _ _ c;have v0:=c.up;have f:Hid ((Sr.sync (Sr.drop s u.id).1,Tu.said 204 [])=(Sr.sync (Sr.drop s u.id).1,Tu.said 204 [])):=by unfold Hid;rfl
 obtain⟨a,q⟩:∃a,a=(Sr.sync (Sr.drop s u.id).1,Tu.said 204 []):=⟨_,rfl⟩;rw[<-q];have f:=H9 q;go_enter func126,ntmps126;go_wp2_with fail
 refine(yj c.sh ok u.id).mono ?_;rintro e w4 ⟨rfl,G,H⟩;have d:=H9 (c.did G H);generalize Sr.drop s u.id=L at *;obtain⟨sa,ca⟩:=L;simp only at f d ⊢;have D:=j _ _ _ d.o;go_wp2_with fail
 refine(nC d.o.sh).mono ?_;rintro e r ⟨rfl,N,T⟩;have x:=d.o.turned N T;go_wp2_with fail
 refine(jO 204 204 rfl [] U 0 0 r (ji.nil r) rfl (by decide)).mono ?_;rintro e w9 ⟨y,z,B,rfl,lK,jX,pV⟩;obtain⟨⟨z0,z1,z2,y0,y1,y2⟩,HE⟩:=x.ends iy (i:=2) rfl (b:=w.heap.size+2) (by first | rfl | omega) (st:=204) (mg:=204) rfl lK (dB (dG _ _) x.sz) jX pV;go_wp2;generalize (((w9.setCell ⟨w.heap.size+2,0,U⟩ (I J 204)).setCell ⟨w.heap.size+2,1,U⟩ (Z y B z)).setCell ⟨w.heap.size+2,2,U⟩ (Z U 0 0))=wf at *;obtain⟨q0,q1,q2,q3⟩:=HE.o;refine fI (v:=.agg #[I J 204,Z y B z,Z U 0 0]) (by simp[results,results126,go_sem,q0,q1,q2]) rfl ?_;rw[f.o];exact lu.of q3
end
section
variable {g:Nat} {m t:ay} {mi ln:Int} {l:au} {fo:ak} {fZ nf:Nat} {bo:ak} {fU nb:Nat} {w w0:X} {S:Nat->Prop} {s:Sr.Sh}
theorem xH (a:ay)(f:a.size<=2000)(h:pE w l fo fZ nf):
 ((Tu.jk (Tu.one (Tu.vals a l))).2=F∧Hid (∀W,Below w.heap.size w W->Calls prog 175 #[.agg #[Q (M ⟨g,0,U⟩),V m,V t,I J mi,Z fo nf fZ,I J ln,Z bo nb fU],V a] W fun e w'=>pY W (Tu.said 400 []) e w')) ∨
 (Tu.jk (Tu.one (Tu.vals a l))=(-1,true)∧Hid (∀W,Below w.heap.size w W->Calls prog 175 #[.agg #[Q (M ⟨g,0,U⟩),V m,V t,I J mi,Z fo nf fZ,I J ln,Z bo nb fU],V a] W fun e w'=>e=Y (.tuple #[I J 0,.bool F])∧Below W.heap.size W w')) ∨
 (∃x:Int,0<=x∧x<1000000000∧Tu.jk (Tu.one (Tu.vals a l))=(x,true)∧Hid (∀W,Below w.heap.size w W->Calls prog 175 #[.agg #[Q (M ⟨g,0,U⟩),V m,V t,I J mi,Z fo nf fZ,I J ln,Z bo nb fU],V a] W fun e w'=>e=Y (.tuple #[I J x,.bool true])∧Below W.heap.size W w')):=by
 by_cases c:(Tu.one (Tu.vals a l)).2=10
 . exact R (A ⟨Tu.D7 c,fun W d=>zw a f (h.stay d) c⟩)
 . cases b:(Tu.jk (Tu.one (Tu.vals a l))).2 with
   | false=>exact A ⟨rfl,fun W d=>DY a f (h.stay d) b⟩
   | true =>
     have i:Tu.jk (Tu.one (Tu.vals a l))=((Tu.jk (Tu.one (Tu.vals a l))).1,true):=by rw[<-b]
     refine R (R ⟨_,Tu.Gx c i,?_,i,fun W d=>Bo a f (h.stay d) c i⟩);generalize Tu.one (Tu.vals a l)=r at *;unfold Tu.jk at b ⊢;rw[if_neg c] at b ⊢;rw[cO] at b;exact(Ch.qc b.1).2
theorem BJ (p:wu w0 w S)(h:gX w S g s)(ok:Sr.Ok s)(hF:pE w l fo fZ nf)(body:av)(hb:body.length=nb)(hB:gN w bo fU body)(hnb:nb<=100000)(u:Sp.Up)(uo:ak)(un gQ:Nat)(hun:u.bytes.length=un)(UH:un<=2000)(hs0:-1<=u.size):
 Calls prog 125 #[.agg #[Q (M ⟨g,0,U⟩),V m,V t,I J mi,Z fo nf fZ,I J ln,Z bo nb fU],.agg #[I J u.id,I J u.size,V u.note,Z uo un gQ,I J u.sent]] w fun e w'=>lu S w g (Tu.patch s u l body) e w':=by
 have T3:iM gX S w g [K #[Q (M ⟨g,0,U⟩),V m,V t,I J mi,Z fo nf fZ,I J ln,Z bo nb fU] 148 (0,0),K #[I J u.id,I J u.size,V u.note,Z uo un gQ,I J u.sent] 92 (0,0),K #[I J 0,Z U 0 0,Z U 0 0] 109 (0,0)] s (fun k=>S k∧k<w.heap.size) (((w.alloc (K #[Q (M ⟨g,0,U⟩),V m,V t,I J mi,Z fo nf fZ,I J ln,Z bo nb fU] 148)).alloc (K #[I J u.id,I J u.size,V u.note,Z uo un gQ,I J u.sent] 92)).alloc (K #[I J 0,Z U 0 0,Z U 0 0] 109)):=QH h _ _;have HB3:Below w.heap.size w (((w.alloc (K #[Q (M ⟨g,0,U⟩),V m,V t,I J mi,Z fo nf fZ,I J ln,Z bo nb fU] 148)).alloc (K #[I J u.id,I J u.size,V u.note,Z uo un gQ,I J u.sent] 92)).alloc (K #[I J 0,Z U 0 0,Z U 0 0] 109)):=then_ (then_ ((eY _ w).alloc (aM _) _) ((eY _ _).alloc (aM _) _)) ((eY _ _).alloc (aM _) _);have HC:∀W s' S',iM gX S w g [K #[Q (M ⟨g,0,U⟩),V m,V t,I J mi,Z fo nf fZ,I J ln,Z bo nb fU] 148 (0,0),K #[I J u.id,I J u.size,V u.note,Z uo un gQ,I J u.sent] 92 (0,0),K #[I J 0,Z U 0 0,Z U 0 0] 109 (0,0)] s' S' W->W.cell? ⟨w.heap.size,0,U⟩=M (Q (M ⟨g,0,U⟩))∧W.cell? ⟨w.heap.size,1,U⟩=M (V m)∧W.cell? ⟨w.heap.size,2,U⟩=M (V t)∧W.cell? ⟨w.heap.size,3,U⟩=M (I J mi)∧W.cell? ⟨w.heap.size,4,U⟩=M (Z fo nf fZ)∧W.cell? ⟨w.heap.size,5,U⟩=M (I J ln)∧W.cell? ⟨w.heap.size,6,U⟩=M (Z bo nb fU):=fun W s' S' hW=>hW.ex;have HU:∀W s' S',iM gX S w g [K #[Q (M ⟨g,0,U⟩),V m,V t,I J mi,Z fo nf fZ,I J ln,Z bo nb fU] 148 (0,0),K #[I J u.id,I J u.size,V u.note,Z uo un gQ,I J u.sent] 92 (0,0),K #[I J 0,Z U 0 0,Z U 0 0] 109 (0,0)] s' S' W->W.cell? ⟨w.heap.size+1,0,U⟩=M (I J u.id)∧W.cell? ⟨w.heap.size+1,1,U⟩=M (I J u.size)∧W.cell? ⟨w.heap.size+1,2,U⟩=M (V u.note)∧W.cell? ⟨w.heap.size+1,3,U⟩=M (Z uo un gQ)∧W.cell? ⟨w.heap.size+1,4,U⟩=M (I J u.sent):=fun W s' S' hW=>hW.up;obtain⟨L,x1,x2,N,T,x5,x6⟩:=HC _ _ _ T3;obtain⟨v0,v1,v2,v3,v4⟩:=HU _ _ _ T3;have HF:=hF;have rJ:=H9 ok;have JC:=H9 p
 have zP:∀W,Below w.heap.size w W->gN W bo fU body:=fun W hW=>hB.stay hW;have hN1:=xH (g:=g) (m:=m) (t:=t) (mi:=mi) (ln:=ln) (bo:=bo) (fU:=fU) (nb:=nb) Tu.uJ (by decide) hF;have hN2:=xH (g:=g) (m:=m) (t:=t) (mi:=mi) (ln:=ln) (bo:=bo) (fU:=fU) (nb:=nb) Tu.ET (by decide) hF;rw[Tu.Wu] at hN1;rw[Tu.vS] at hN2;unfold Tu.uJ at hN1;unfold Tu.ET at hN2;have UF:∀x W,0<=u.size->x≠u.size->Calls prog 176 #[.agg #[I J u.id,I J u.size,V u.note,Z uo un gQ,I J u.sent],I J x,I J ((un:Int)+nb)] W fun e w'=>pY W (Tu.said 400 []) e w':=fun x W=>(uG u.id u.size u.sent x ((un:Int)+nb) u.note uo un gQ W hs0).1;have HS2:∀x W,u.size<0->(2000<x∨x<(un:Int)+nb)->Calls prog 176 #[.agg #[I J u.id,I J u.size,V u.note,Z uo un gQ,I J u.sent],I J x,I J ((un:Int)+nb)] W fun e w'=>pY W (Tu.said 413 []) e w':=fun x W=>(uG u.id u.size u.sent x ((un:Int)+nb) u.note uo un gQ W hs0).2.1;have yX:∀x W,(0<=u.size∧x=u.size)∨(u.size<0∧¬(2000<x∨x<(un:Int)+nb))->Calls prog 176 #[.agg #[I J u.id,I J u.size,V u.note,Z uo un gQ,I J u.sent],I J x,I J ((un:Int)+nb)] W fun e w'=>e=Y (.tuple #[])∧Below W.heap.size W w':=fun x W=>(uG u.id u.size u.sent x ((un:Int)+nb) u.note uo un gQ W hs0).2.2;obtain⟨aaj,hR⟩:∃aaj,aaj=Tu.patch s u l body:=⟨_,rfl⟩;rw[<-hR];unfold Tu.patch at hR;rw[hun,hb] at hR;have a:=H9 hR;go_enter func125,ntmps125;by_cases hc9:(Tu.one (Tu.vals Tu.Mx l)).2=9
 . rw[if_pos hc9] at a;have HM:=LB (g:=g) (m:=m) (t:=t) (mi:=mi) (ln:=ln) (bo:=bo) (fU:=fU) (nb:=nb) (HF.stay HB3) hc9;go_wp2_with fail
   refine(HM).mono ?_;rintro e C n;obtain⟨f,q,r,z,d⟩:=T3.fell n;unfold iG at d;subst d;go_wp2;exact⟨rfl,by rw[a.o];exact f.o⟩
 rw[if_neg hc9] at a;obtain⟨hm1,hm2⟩:=OL (g:=g) (m:=m) (t:=t) (mi:=mi) (ln:=ln) (bo:=bo) (fU:=fU) (nb:=nb) (HF.stay HB3) hc9;cases hoff:Tu.CW (Tu.one (Tu.vals Tu.Mx l)).1 with
 | false =>
   rw[if_pos hoff] at a;have HM:=hm1 hoff;go_wp2_with fail
   refine(HM).mono ?_;rintro e C n;obtain⟨f,q,r,z,d⟩:=T3.fell n;unfold iG at d;subst d;go_wp2;exact⟨rfl,by rw[a.o];exact f.o⟩
 | true =>
 rw[if_neg (by rw[hoff];simp)] at a;have HM:=hm2 hoff;go_wp2_with fail
 refine(HM).mono ?_;rintro e w4 ⟨rfl,c⟩;have kr:=then_ HB3 c;have H4:=T3.stay iy c;obtain⟨L,x1,x2,N,T,x5,x6⟩:=HC _ _ _ H4;obtain⟨v0,v1,v2,v3,v4⟩:=HU _ _ _ H4;rcases hN1 with ⟨hx,HN⟩ | ⟨hx,HN⟩ | ⟨x,hx0,hx1,hx,HN⟩
 . rw[if_pos (A hx)] at a;go_wp2_with fail
   refine(HN.o _ kr).mono ?_;rintro e C n;obtain⟨f,q,r,z,d⟩:=H4.fell n;unfold iG at d;subst d;go_wp2;exact⟨rfl,by rw[a.o];exact f.o⟩
 . rw[if_pos (R (by rw[hx];decide))] at a;go_wp2_with fail
   refine(HN.o _ kr).mono ?_;rintro e w5 ⟨rfl,c⟩;have nX:=then_ kr c;have H5:=H4.stay iy c;obtain⟨L,x1,x2,N,T,x5,x6⟩:=HC _ _ _ H5;obtain⟨v0,v1,v2,v3,v4⟩:=HU _ _ _ H5;go_wp2_with fail
   refine(iJ 400 400 rfl _).mono ?_;rintro e C n;obtain⟨f,q,r,z,d⟩:=H5.fell n;unfold iG at d;subst d;go_wp2;exact⟨rfl,by rw[a.o];exact f.o⟩
 rw[if_neg (by rw[hx];exact fun e=>e.elim (fun e=>by cases e) (fun e=>absurd e (by show ¬x<0;omega)))] at a;rw[hx] at a;simp only at a;go_wp2_with fail
 refine(HN.o _ kr).mono ?_;rintro e w5 ⟨rfl,c⟩;have nX:=then_ kr c;have H5:=H4.stay iy c;obtain⟨L,x1,x2,N,T,x5,x6⟩:=HC _ _ _ H5;obtain⟨v0,v1,v2,v3,v4⟩:=HU _ _ _ H5;go_wp2_with fail
 refine(iF 400 U 0 0 _).mono ?_;rintro e wq ⟨rfl,c⟩;rw[c];by_cases hxu:x=(un:Int)
 case neg =>
  rw[if_pos hxu] at a;have tx:(x==(un:Int))=F:=by rw[aR];exact hxu
  go_wp2_with fail
  refine(iJ 409 409 rfl _).mono ?_;rintro e C n;obtain⟨f,q,r,z,d⟩:=H5.fell n;unfold iG at d;subst d;go_wp2;exact⟨rfl,by rw[a.o];exact f.o⟩
 rw[if_neg (fun e=>e hxu)] at a;subst hxu;go_wp2_with fail
 refine(iF 409 U 0 0 _).mono ?_;rintro e wq ⟨rfl,c⟩;rw[c];rcases hN2 with ⟨hy,HN⟩ | ⟨hy,HN⟩ | ⟨y,hy0,hy1,hy,HN⟩
 . rw[if_pos (A hy)] at a;go_wp2_with fail
   refine(HN.o _ nX).mono ?_;rintro e C n;obtain⟨f,q,r,z,d⟩:=H5.fell n;unfold iG at d;subst d;go_wp2;exact⟨rfl,by rw[a.o];exact f.o⟩
 . have H:Tu.tell u l<->(0<=(-1:Int)∧u.size<0):=by unfold Tu.tell;rw[hy]
   rw[hy] at a;simp only at a;rw[if_neg (fun e=>e.elim (fun e=>by cases e) (fun e=>by have:=e.1;omega)),if_neg (fun e=>by have:=(H.1 e.1).1;omega)] at a;go_wp2_with fail
   refine(HN.o _ nX).mono ?_;rintro e w6 ⟨rfl,c⟩;have xA:=then_ nX c;have H6:=H5.stay iy c;obtain⟨L,x1,x2,N,T,x5,x6⟩:=HC _ _ _ H6;obtain⟨v0,v1,v2,v3,v4⟩:=HU _ _ _ H6;obtain⟨D,Jf⟩:∃b,(decide ((0:Int)<=(nb:Int)+60)&&decide ((nb:Int)+60<=100000-(s.log.length:Int)))=b:=⟨_,rfl⟩;have eR:D=F<->100000<s.log.length+(nb+60):=by
    rw[<-Jf,dw,bO,bO];omega
   have TI:=uE H6.sh ((nb:Int)+60);rw[Jf] at TI;go_wp2_with fail
   refine TI.mono ?_;rintro e wq ⟨rfl,c⟩;rw[c];cases D with
   | false =>
     rw[if_pos (eR.1 rfl)] at a;go_wp2_with fail
     refine(iJ 507 507 rfl _).mono ?_;rintro e C n;obtain⟨f,q,r,z,d⟩:=H6.fell n;unfold iG at d;subst d;go_wp2;exact⟨rfl,by rw[a.o];exact f.o⟩
   | true =>
     rw[if_neg (fun e=>by have:=eR.2 e;cases this)] at a;go_wp2_with fail
     refine(iF 507 U 0 0 _).mono ?_;rintro e wq ⟨rfl,c⟩;rw[c];have Ux:=qj H6.sh rJ.o u.id (un:Int) bo nb fU body (zP _ xA) hb (by omega);have Jg:(Sr.append s u.id (un:Int) body).2≠0->(Sr.append s u.id (un:Int) body).1=s:=fun e=>by unfold Sr.append at e ⊢;exact Tu.lN e
     have HOa:Sr.Ok (Sr.append s u.id (un:Int) body).1:=rJ.o.append _ _ _;go_wp2_with fail
     refine Ux.mono ?_;rintro e w20 ⟨rfl,G,hT⟩;have B:=H6.did G hT;generalize Sr.append s u.id (un:Int) body=ra at *;obtain⟨sa,ca⟩:=ra;simp only at a Jg B HOa ⊢;obtain⟨L,x1,x2,N,T,x5,x6⟩:=HC _ _ _ B;obtain⟨v0,v1,v2,v3,v4⟩:=HU _ _ _ B;by_cases j:ca=0
     . subst j;rw[if_neg (by simp)] at a;go_wp2_with fail
       refine(qb _).mono ?_;rintro e wq ⟨rfl,c⟩;rw[c];rw[if_neg (fun e=>by have:=(H.1 e).1;omega)] at a;have IE:=nC B.sh;go_wp2_with fail
       refine IE.mono ?_;rintro e w22 ⟨rfl,uR,BF⟩;have ZI:=B.turned uR BF;have JD:=oG Tu.uJ (un+nb) ((un:Int)+nb) (by omega) (by omega) w22 (ZI.pow JC.o);unfold Tu.uJ at JD;generalize Tu.dec (un+nb)=db at *;go_wp2_with fail
       refine JD.mono ?_;rintro e Xr ⟨rfl,c⟩;have Xt:=(ZI.stay iy c).stay iy ((eY _ Xr).alloc (aM _) (K #[V Tu.uJ,V db] 131));have LC:=jO 204 204 rfl [(Tu.uJ,db)] (M ⟨Xr.heap.size,0,U⟩) 1 1 _ (ji.made Xr #[V Tu.uJ,V db] 1 131 (0,0)) rfl (by decide);unfold Tu.uJ at LC Xt;go_wp2_with fail
       refine LC.mono ?_;rintro e C ⟨q,r,z,rfl,lK,jX,pV⟩;obtain⟨⟨z0,z1,z2,y0,y1,y2⟩,f⟩:=Xt.ends iy (i:=2) rfl (b:=w.heap.size+2) (by first | rfl | omega) (st:=204) (mg:=204) rfl lK (dB (dG _ _) Xt.sz) jX pV;go_wp2;generalize (((C.setCell ⟨w.heap.size+2,0,U⟩ (I J 204)).setCell ⟨w.heap.size+2,1,U⟩ (Z q z r)).setCell ⟨w.heap.size+2,2,U⟩ (Z U 0 0))=wf at *;obtain⟨q0,q1,q2,q3⟩:=f.o;refine fI (v:=.agg #[I J 204,Z q z r,Z U 0 0]) (by simp[results,results125,go_sem,q0,q1,q2]) rfl ?_;rw[a.o];exact lu.of q3
     . rw[if_pos j] at a;have hsa:=Jg j;subst hsa;have HNd:=rF ca j w20;go_wp2_with fail
       refine(HNd).mono ?_;rintro e C n;obtain⟨f,q,r,z,d⟩:=B.fell n;unfold iG at d;subst d;go_wp2;exact⟨rfl,by rw[a.o];exact f.o⟩
 . have H:Tu.tell u l<->(0<=y∧u.size<0):=by unfold Tu.tell;rw[hy]
   rw[hy] at a;simp only at a;go_wp2_with fail
   refine(HN.o _ nX).mono ?_;rintro e w6 ⟨rfl,c⟩;have xA:=then_ nX c;have H6:=H5.stay iy c;obtain⟨L,x1,x2,N,T,x5,x6⟩:=HC _ _ _ H6;obtain⟨v0,v1,v2,v3,v4⟩:=HU _ _ _ H6;by_cases hsz:u.size<0
   . rw[if_neg (fun e=>e.elim (fun e=>by cases e) (fun e=>by have:=e.2.1;omega))] at a;by_cases hbad:2000<y∨y<(un:Int)+nb
     . rw[if_pos ⟨H.2 ⟨hy0,hsz⟩,by simpa using hbad⟩] at a;have HQ:=HS2 y w6 hsz hbad;go_wp2_with fail
       refine(HQ).mono ?_;rintro e C n;obtain⟨f,q,r,z,d⟩:=H6.fell n;unfold iG at d;subst d;go_wp2;exact⟨rfl,by rw[a.o];exact f.o⟩
     . rw[if_neg (fun e=>hbad (by simpa using e.2))] at a;have HQ:=yX y w6 (R ⟨hsz,hbad⟩);go_wp2_with fail
       refine(HQ).mono ?_;rintro e w7 ⟨rfl,c⟩;have TJ:=then_ xA c;have H7:=H6.stay iy c;obtain⟨L,x1,x2,N,T,x5,x6⟩:=HC _ _ _ H7;obtain⟨v0,v1,v2,v3,v4⟩:=HU _ _ _ H7;obtain⟨D,Jf⟩:∃b,(decide ((0:Int)<=(nb:Int)+60)&&decide ((nb:Int)+60<=100000-(s.log.length:Int)))=b:=⟨_,rfl⟩;have eR:D=F<->100000<s.log.length+(nb+60):=by
        rw[<-Jf,dw,bO,bO];omega
       have TI:=uE H7.sh ((nb:Int)+60);rw[Jf] at TI;go_wp2_with fail
       refine TI.mono ?_;rintro e wq ⟨rfl,c⟩;rw[c];cases D with
       | false =>
         rw[if_pos (eR.1 rfl)] at a;go_wp2_with fail
         refine(iJ 507 507 rfl _).mono ?_;rintro e C n;obtain⟨f,q,r,z,d⟩:=H7.fell n;unfold iG at d;subst d;go_wp2;exact⟨rfl,by rw[a.o];exact f.o⟩
       | true =>
         rw[if_neg (fun e=>by have:=eR.2 e;cases this)] at a;go_wp2_with fail
         refine(iF 507 U 0 0 _).mono ?_;rintro e wq ⟨rfl,c⟩;rw[c];have Ux:=qj H7.sh rJ.o u.id (un:Int) bo nb fU body (zP _ TJ) hb (by omega);have Jg:(Sr.append s u.id (un:Int) body).2≠0->(Sr.append s u.id (un:Int) body).1=s:=fun e=>by unfold Sr.append at e ⊢;exact Tu.lN e
         have HOa:Sr.Ok (Sr.append s u.id (un:Int) body).1:=rJ.o.append _ _ _;go_wp2_with fail
         refine Ux.mono ?_;rintro e w20 ⟨rfl,G,hT⟩;have B:=H7.did G hT;generalize Sr.append s u.id (un:Int) body=ra at *;obtain⟨sa,ca⟩:=ra;simp only at a Jg B HOa ⊢;obtain⟨L,x1,x2,N,T,x5,x6⟩:=HC _ _ _ B;obtain⟨v0,v1,v2,v3,v4⟩:=HU _ _ _ B;by_cases j:ca=0
         . subst j;rw[if_neg (by simp)] at a;go_wp2_with fail
           refine(qb _).mono ?_;rintro e wq ⟨rfl,c⟩;rw[c];rw[if_pos (H.2 ⟨hy0,hsz⟩)] at a;have t1:(u.size==-1)=true:=by rw[aS];omega
           have Zq:=Fj B.sh HOa u.id y;go_wp2_with fail
           refine Zq.mono ?_;rintro e w21 ⟨rfl,G,hT⟩;have H21:=B.did G hT;generalize Sr.declare sa u.id y=rd at *;obtain⟨sd,cd⟩:=rd;simp only at a H21 ⊢;obtain⟨L,x1,x2,N,T,x5,x6⟩:=HC _ _ _ H21;obtain⟨v0,v1,v2,v3,v4⟩:=HU _ _ _ H21;have IE:=nC H21.sh;go_wp2_with fail
           refine IE.mono ?_;rintro e w22 ⟨rfl,uR,BF⟩;have ZI:=H21.turned uR BF;have JD:=oG Tu.uJ (un+nb) ((un:Int)+nb) (by omega) (by omega) w22 (ZI.pow JC.o);unfold Tu.uJ at JD;generalize Tu.dec (un+nb)=db at *;go_wp2_with fail
           refine JD.mono ?_;rintro e Xr ⟨rfl,c⟩;have Xt:=(ZI.stay iy c).stay iy ((eY _ Xr).alloc (aM _) (K #[V Tu.uJ,V db] 131));have LC:=jO 204 204 rfl [(Tu.uJ,db)] (M ⟨Xr.heap.size,0,U⟩) 1 1 _ (ji.made Xr #[V Tu.uJ,V db] 1 131 (0,0)) rfl (by decide);unfold Tu.uJ at LC Xt;go_wp2_with fail
           refine LC.mono ?_;rintro e C ⟨q,r,z,rfl,lK,jX,pV⟩;obtain⟨⟨z0,z1,z2,y0,y1,y2⟩,f⟩:=Xt.ends iy (i:=2) rfl (b:=w.heap.size+2) (by first | rfl | omega) (st:=204) (mg:=204) rfl lK (dB (dG _ _) Xt.sz) jX pV;go_wp2;generalize (((C.setCell ⟨w.heap.size+2,0,U⟩ (I J 204)).setCell ⟨w.heap.size+2,1,U⟩ (Z q z r)).setCell ⟨w.heap.size+2,2,U⟩ (Z U 0 0))=wf at *;obtain⟨q0,q1,q2,q3⟩:=f.o;refine fI (v:=.agg #[I J 204,Z q z r,Z U 0 0]) (by simp[results,results125,go_sem,q0,q1,q2]) rfl ?_;rw[a.o];exact lu.of q3
         . rw[if_pos j] at a;have hsa:=Jg j;subst hsa;have HNd:=rF ca j w20;clear j Jg;go_wp2_with fail
           refine(HNd).mono ?_;rintro e C n;obtain⟨f,q,r,z,d⟩:=B.fell n;unfold iG at d;subst d;clear n;go_wp2;exact⟨rfl,by rw[a.o];exact f.o⟩
   . have hsz0:0<=u.size:=by omega
     by_cases hne:y=u.size
     . rw[if_neg (fun e=>e.elim (fun e=>by cases e) (fun e=>e.2.2 hne)),if_neg (fun e=>hsz (H.1 e.1).2)] at a;have HQ:=yX y w6 (A ⟨hsz0,hne⟩);clear hne;go_wp2_with fail
       refine(HQ).mono ?_;rintro e w7 ⟨rfl,c⟩;have TJ:=then_ xA c;have H7:=H6.stay iy c;clear c H6 xA L x1 x2 N T x5 x6 v0 v1 v2 v3 v4;obtain⟨L,x1,x2,N,T,x5,x6⟩:=HC _ _ _ H7;obtain⟨v0,v1,v2,v3,v4⟩:=HU _ _ _ H7;clear HQ;obtain⟨D,Jf⟩:∃b,(decide ((0:Int)<=(nb:Int)+60)&&decide ((nb:Int)+60<=100000-(s.log.length:Int)))=b:=⟨_,rfl⟩;have eR:D=F<->100000<s.log.length+(nb+60):=by
        rw[<-Jf,dw,bO,bO];omega
       have TI:=uE H7.sh ((nb:Int)+60);rw[Jf] at TI;clear Jf;go_wp2_with fail
       refine TI.mono ?_;rintro e wq ⟨rfl,c⟩;rw[c];clear c;clear TI;cases D with
       | false =>
         rw[if_pos (eR.1 rfl)] at a;go_wp2_with fail
         refine(iJ 507 507 rfl _).mono ?_;rintro e C n;obtain⟨f,q,r,z,d⟩:=H7.fell n;unfold iG at d;subst d;clear n;go_wp2;exact⟨rfl,by rw[a.o];exact f.o⟩
       | true =>
         rw[if_neg (fun e=>by have:=eR.2 e;cases this)] at a;clear eR;go_wp2_with fail
         refine(iF 507 U 0 0 _).mono ?_;rintro e wq ⟨rfl,c⟩;rw[c];clear c;have Ux:=qj H7.sh rJ.o u.id (un:Int) bo nb fU body (zP _ TJ) hb (by omega);have Jg:(Sr.append s u.id (un:Int) body).2≠0->(Sr.append s u.id (un:Int) body).1=s:=fun e=>by unfold Sr.append at e ⊢;exact Tu.lN e
         have HOa:Sr.Ok (Sr.append s u.id (un:Int) body).1:=rJ.o.append _ _ _;go_wp2_with fail
         refine Ux.mono ?_;rintro e w20 ⟨rfl,G,hT⟩;have B:=H7.did G hT;clear G hT Ux H7 TJ L x1 x2 N T x5 x6 v0 v1 v2 v3 v4;generalize Sr.append s u.id (un:Int) body=ra at *;obtain⟨sa,ca⟩:=ra;simp only at a Jg B HOa ⊢;obtain⟨L,x1,x2,N,T,x5,x6⟩:=HC _ _ _ B;obtain⟨v0,v1,v2,v3,v4⟩:=HU _ _ _ B;by_cases j:ca=0
         . subst j;rw[if_neg (by simp)] at a;clear Jg;go_wp2_with fail
           refine(qb _).mono ?_;rintro e wq ⟨rfl,c⟩;rw[c];clear c;have t1:(u.size==-1)=F:=by rw[aR];omega
           rw[if_neg (fun e=>by have:=(H.1 e).2;omega)] at a;have IE:=nC B.sh;go_wp2_with fail
           refine IE.mono ?_;rintro e w22 ⟨rfl,uR,BF⟩;have ZI:=B.turned uR BF;have JD:=oG Tu.uJ (un+nb) ((un:Int)+nb) (by omega) (by omega) w22 (ZI.pow JC.o);unfold Tu.uJ at JD;generalize Tu.dec (un+nb)=db at *;clear uR BF IE B L x1 x2 N T x5 x6 v0 v1 v2 v3 v4;go_wp2_with fail
           refine JD.mono ?_;rintro e Xr ⟨rfl,c⟩;have Xt:=(ZI.stay iy c).stay iy ((eY _ Xr).alloc (aM _) (K #[V Tu.uJ,V db] 131));have LC:=jO 204 204 rfl [(Tu.uJ,db)] (M ⟨Xr.heap.size,0,U⟩) 1 1 _ (ji.made Xr #[V Tu.uJ,V db] 1 131 (0,0)) rfl (by decide);unfold Tu.uJ at LC Xt;clear c JD ZI;go_wp2_with fail
           refine LC.mono ?_;rintro e C ⟨q,r,z,rfl,lK,jX,pV⟩;obtain⟨⟨z0,z1,z2,y0,y1,y2⟩,f⟩:=Xt.ends iy (i:=2) rfl (b:=w.heap.size+2) (by first | rfl | omega) (st:=204) (mg:=204) rfl lK (dB (dG _ _) Xt.sz) jX pV;clear lK jX pV;go_wp2;generalize (((C.setCell ⟨w.heap.size+2,0,U⟩ (I J 204)).setCell ⟨w.heap.size+2,1,U⟩ (Z q z r)).setCell ⟨w.heap.size+2,2,U⟩ (Z U 0 0))=wf at *;obtain⟨q0,q1,q2,q3⟩:=f.o;refine fI (v:=.agg #[I J 204,Z q z r,Z U 0 0]) (by simp[results,results125,go_sem,q0,q1,q2]) rfl ?_;rw[a.o];exact lu.of q3
         . rw[if_pos j] at a;have hsa:=Jg j;subst hsa;have HNd:=rF ca j w20;clear j Jg;go_wp2_with fail
           refine(HNd).mono ?_;rintro e C n;obtain⟨f,q,r,z,d⟩:=B.fell n;unfold iG at d;subst d;clear n;go_wp2;exact⟨rfl,by rw[a.o];exact f.o⟩
     . rw[if_pos (R ⟨hy0,hsz0,hne⟩)] at a;have HQ:=UF y w6 hsz0 hne;clear hne;go_wp2_with fail
       refine(HQ).mono ?_;rintro e C n;obtain⟨f,q,r,z,d⟩:=H6.fell n;unfold iG at d;subst d;clear n;go_wp2;exact⟨rfl,by rw[a.o];exact f.o⟩
end
def Er:Wm:=fun _ _ _ _=>True
theorem mW:zm Er:=⟨fun _ _ _=>trivial,fun _ _=>trivial⟩
def LD:Nat->Prop:=fun _=>False
theorem zo.Xu {w w':X}{g:Nat}{s:Sr.Sh}{r:Tu.yA}{e:Ending}(h:zo Er LD w g (s,r) e w'):KJ w r e w':=by
 obtain⟨⟨b,a,n,c,d,f⟩,_,i⟩:=h;exact⟨b,a,n,c,d,f,i.below (fun _ e=>e.elim) (aM _)⟩
theorem aaF (w:X)(a:Obj):iM Er LD w 0 [a] Sr.new (fun k=>LD k∧k<w.heap.size) (w.alloc a) :=
 (iM.start (O:=Er) (S:=LD) (g:=0) (s:=Sr.new) mW trivial).box mW rfl (fun _ e=>e.1.elim) _
theorem aem (w:X)(a b:Obj):iM Er LD w 0 [a,b] Sr.new (fun k=>LD k∧k<w.heap.size) ((w.alloc a).alloc b):=by
 have c:(w.alloc a).heap.size=w.heap.size+1:=fG ..;exact(aaF w a).box mW c (fun _ e=>e.1.elim) _
theorem Jh (w:X)(q:kD w):Calls prog 118 #[] w fun e w'=>KJ w (Tu.said 204 [(Tu.xB,Tu.jG),(Tu.Vh,Tu.vg),(Tu.Yn,Tu.Yo)]) e w':=by
 have s:=aaF w (K #[I J 0,Z U 0 0,Z U 0 0] 109);have c:=(eY _ w).alloc (aM _) (K #[I J 0,Z U 0 0,Z U 0 0] 109);go_enter func118,ntmps118;go_wp2_with fail
 refine(jV Tu.xB Tu.jG (w.alloc (K #[I J 0,Z U 0 0,Z U 0 0] 109))).mono ?_;rintro e t ⟨rfl,a⟩;have u:=s.stay mW a;have d:=then_ c a;have f:=oG Tu.Vh 2000 2000 rfl (by decide) t (q.stay d);rw[show Tu.dec 2000=Tu.vg from by decide +kernel] at f;unfold Tu.Vh Tu.vg at f;go_wp2_with fail
 refine f.mono ?_;rintro e x ⟨rfl,g⟩;have y:=u.stay mW g;go_wp2_with fail
 refine(jV Tu.Yn Tu.Yo x).mono ?_;rintro e j ⟨rfl,k⟩;have l:=(y.stay mW k).stay mW ((eY _ j).alloc (aM _) (K #[V Tu.xB,V Tu.jG,V Tu.Vh,V Tu.vg,V Tu.Yn,V Tu.Yo] 131));unfold Tu.xB Tu.jG Tu.Vh Tu.vg Tu.Yn Tu.Yo at l;go_wp2_with fail
 refine(jO 204 204 rfl [(Tu.xB,Tu.jG),(Tu.Vh,Tu.vg),(Tu.Yn,Tu.Yo)] (M ⟨j.heap.size,0,U⟩) 3 3 _ (ji.made j #[V Tu.xB,V Tu.jG,V Tu.Vh,V Tu.vg,V Tu.Yn,V Tu.Yo] 3 131 (0,0)) rfl (by decide)).mono ?_;rintro e z ⟨m,n,p,rfl,B,C,D⟩;obtain⟨⟨T,W,z2,y0,y1,y2⟩,G⟩:=l.ends mW (i:=0) rfl (b:=w.heap.size) (by first | rfl | omega) (st:=204) (mg:=204) rfl B (dB (dG _ _) l.sz) C D;go_wp2;generalize (((z.setCell ⟨w.heap.size,0,U⟩ (I J 204)).setCell ⟨w.heap.size,1,U⟩ (Z m p n)).setCell ⟨w.heap.size,2,U⟩ (Z U 0 0))=wf at *;obtain⟨H,L,N,S⟩:=G.o;refine fI (v:=.agg #[I J 204,Z m p n,Z U 0 0]) (by simp[results,results118,go_sem,H,L,N]) rfl ?_;exact zo.Xu (r:=Tu.said 204 [(Tu.xB,Tu.jG),(Tu.Vh,Tu.vg),(Tu.Yn,Tu.Yo)]) S
theorem xI (u:Sp.Up)(uo:ak)(un gQ:Nat)(hun:u.bytes.length=un)(hs0:-1<=u.size)(hs1:u.size<=2000)(UH:un<=2000)(w:X)(hP:kD w):
 Calls prog 124 #[.agg #[I J u.id,I J u.size,V u.note,Z uo un gQ,I J u.sent]] w fun e w'=>KJ w (Tu.head u) e w':=by
 have T2:=aem w (K #[I J u.id,I J u.size,V u.note,Z uo un gQ,I J u.sent] 92) (K #[I J 0,Z U 0 0,Z U 0 0] 109);have HC:∀W s' S',iM Er LD w 0 [K #[I J u.id,I J u.size,V u.note,Z uo un gQ,I J u.sent] 92 (0,0),K #[I J 0,Z U 0 0,Z U 0 0] 109 (0,0)] s' S' W->W.cell? ⟨w.heap.size,1,U⟩=M (I J u.size)∧W.cell? ⟨w.heap.size,2,U⟩=M (V u.note)∧W.cell? ⟨w.heap.size,3,U⟩=M (Z uo un gQ):=fun W s' S' j=>by
  have r:=j.row 0 rfl;exact⟨eZ W _ 1 _ _ _ r,eZ W _ 2 _ _ _ r,eZ W _ 3 _ _ _ r⟩
 obtain⟨x1,x2,x3⟩:=HC _ _ _ T2;have HB2:Below w.heap.size w ((w.alloc (K #[I J u.id,I J u.size,V u.note,Z uo un gQ,I J u.sent] 92)).alloc (K #[I J 0,Z U 0 0,Z U 0 0] 109)):=then_ ((eY _ w).alloc (aM _) _) ((eY _ _).alloc (aM _) _);have JC:=H9 hP;have HUn:=H9 hun;obtain⟨z,hcnt,l⟩:∃z:ay,Hid (∀W,Below w.heap.size w W->Calls prog 167 #[V Tu.ET,I J u.size] W fun e w'=>e=Y (.agg #[V Tu.ET,V z])∧Below W.heap.size W w')∧(0<=u.size->z=Tu.dec u.size.toNat):=by
  by_cases h0:0<=u.size
  . exact⟨_,fun W j=>oG Tu.ET u.size.toNat u.size (by omega) (by omega) W (hP.stay j),fun _=>rfl⟩
  . have e1:u.size=-1:=by omega
    rw[e1];refine⟨⟨(Lib.itoa (-1)).toArray⟩,fun W j=>?_,fun e=>absurd e (by omega)⟩;refine Gr Tu.ET _ (-1) W (fun W2 hW2=>?_);refine(Any.strconv_Itoa Tryz.lays171 (-1) (by decide) (by decide) W2 (hP.stay (then_ j hW2))).mono ?_;rintro e w' ⟨he,k,os,rfl⟩;exact⟨he,Lib.below_grow _ W2 (aM _) k os⟩
 have HC1:=H9 (hcnt.out _ HB2);unfold Tu.ET at HC1;obtain⟨f,g,d⟩:∃f g:ay,(f,g)=(if u.size<0 then (Tu.EU,Tu.yK) else (Tu.ET,Tu.dec u.size.toNat)):=⟨_,_,rfl⟩;obtain⟨B,hR⟩:∃B,B=Tu.head u:=⟨_,rfl⟩;rw[<-hR];have HD:Hid (B=Tu.said 200 ((Tu.uJ,Tu.dec un)::(f,g)::(Tu.MO,Tu.MP)::(if u.note.size=0 then [] else [(Tu.FX,u.note)]))):=by
  unfold Hid;rw[hR];unfold Tu.head;rw[<-d,HUn.o]
 have TF:(f,g)=(if u.size<0 then (Tu.EU,Tu.yK) else (Tu.ET,Tu.dec u.size.toNat)):=d;have HSv:=H9 l;go_enter func124,ntmps124;go_wp2_with fail
 refine HC1.o.mono ?_;rintro e C ⟨rfl,hw3⟩;have H3:=T2.stay mW hw3;have HB3:=then_ HB2 hw3;have hb4:=(eY _ C).alloc (aM _) (K #[V Tu.ET,V z] 131);have H4:=H3.stay mW hb4;have kr:=then_ HB3 hb4;have m:(C.alloc (K #[V Tu.ET,V z] 131)).heap[C.heap.size]? = M (K #[V Tu.ET,V z] 131 (0,0)):=eX C _;have HZ4:Hid (w.heap.size+2<=C.heap.size):=H3.sz;obtain⟨x1,x2,x3⟩:=HC _ _ _ H4;unfold Tu.ET at H4 kr m;unfold Tu.ET at x1 x2 x3;go_upto_region 2 with fail
 generalize (C.alloc (K #[V ⟨#[85,112,108,111,97,100,45,76,101,110,103,116,104]⟩,V z] 131))=w4 at *;generalize C.heap.size=c at *;obtain⟨bn,hbn⟩:∃b,(u.size==-1)=b:=⟨_,rfl⟩;have D:Hid (bn=true<->u.size<0):=by
  unfold Hid;rw[<-hbn,aS];omega
 go_upto_if 10 with fail
 go_cut [11] (fun _ G=>iM Er LD w 0 [K #[I J u.id,I J u.size,V u.note,Z uo un gQ,I J u.sent] 92 (0,0),K #[I J 0,Z U 0 0,Z U 0 0] 109 (0,0)] Sr.new (fun k=>LD k∧k<w.heap.size) G∧Below w.heap.size w G∧G.heap[c]? = M (K #[V f,V g] 131 (0,0)))
 case first =>
  cases bn with
  | true =>
    have d:=TF;rw[if_pos (D.o.1 rfl)] at d;injection d with H L;subst H;subst L;go_wp2_with fail
    refine(jV Tu.EU Tu.yK w4).mono ?_;rintro e y ⟨rfl,Cy⟩;have nW:=(Cy.block c (aL.1 m).1).trans m;have c0:=eZ y _ 0 _ _ _ nW;have c1:=eZ y _ 1 _ _ _ nW
    have y0:=fq y _ 0 _ _ nW;have y1:=fq y _ 1 _ _ nW
    simp at c0 c1;have hTk:=gY c [V Tu.EU,V Tu.yK] 0 y;have HX:iM Er LD w 0 [K #[I J u.id,I J u.size,V u.note,Z uo un gQ,I J u.sent] 92 (0,0),K #[I J 0,Z U 0 0,Z U 0 0] 109 (0,0)] Sr.new (fun k=>LD k∧k<w.heap.size) ((y.setCell ⟨c,0,U⟩ (V Tu.EU)).setCell ⟨c,1,U⟩ (V Tu.yK))∧Below w.heap.size w ((y.setCell ⟨c,0,U⟩ (V Tu.EU)).setCell ⟨c,1,U⟩ (V Tu.yK))∧((y.setCell ⟨c,0,U⟩ (V Tu.EU)).setCell ⟨c,1,U⟩ (V Tu.yK)).heap[c]? = M (K #[V Tu.EU,V Tu.yK] 131 (0,0)):=by
     have hz:=HZ4.o;have hb:=then_ kr Cy;exact⟨(H4.stay mW Cy).aside mW hTk hz (fun e=>e.1.elim),(hb.setCell (p:=⟨c,0,U⟩) (by show w.heap.size<=c;omega) _).setCell (p:=⟨c,1,U⟩) (by show w.heap.size<=c;omega) _,fu _ _ 1 _ _ (V Tu.yK) (fu _ _ 0 _ _ (V Tu.EU) nW)⟩
    unfold Tu.EU Tu.yK at HX;go_wp2;go_meet;exact HX
  | false =>
    have d:=TF;rw[if_neg (fun e=>by have:=D.o.2 e;cases this)] at d;injection d with H L;have l:=HSv.o (by
     rcases Int.lt_or_le u.size 0 with e | e
     . have:=D.o.2 e;cases this
     . exact e)
    rw[<-L] at l;subst H;subst l;go_wp2;go_meet;exact⟨H4,kr,m⟩
 case rest =>
  obtain⟨hT,hB,hr⟩:=hcut;have HT:=hT;have HB:=H9 hB;have HR:=H9 hr
  have hkl:=(aL.1 hr).1;have NV:∀W,Below w.heap.size w W->Calls prog 167 #[V Tu.uJ,I J (un:Int)] W fun e w'=>e=Y (.agg #[V Tu.uJ,V (Tu.dec un)])∧Below W.heap.size W w':=fun W j=>oG Tu.uJ un un rfl (by omega) W (JC.o.stay j);have HFc:∀W,Calls prog 121 #[V Tu.MO,V Tu.MP] W fun e w'=>e=Y (.agg #[V Tu.MO,V Tu.MP])∧Below W.heap.size W w':=fun W=>jV Tu.MO Tu.MP W;have N:∀W,Below wc.heap.size wc W->W.cell? ⟨w.heap.size,3,U⟩=M (Z uo un gQ)∧W.cell? ⟨c,0,U⟩=M (V f)∧W.cell? ⟨c,1,U⟩=M (V g):=fun W j=>by
   have hr':=(j.block c hkl).trans HR.o;exact⟨(HC _ _ _ (HT.stay mW j)).2.2,eZ W _ 0 _ _ _ hr',eZ W _ 1 _ _ _ hr'⟩
  generalize Tu.dec un=n at *;have Oo:∀W,Below wc.heap.size wc W->gH (W.alloc (K #[V Tu.uJ,V n,V f,V g,V Tu.MO,V Tu.MP] 131)) (w.heap.size+2) 131 2 (M ⟨W.heap.size,0,U⟩) 3 3 (gG [(Tu.uJ,n),(f,g),(Tu.MO,Tu.MP)])∧iM Er LD w 0 [K #[I J u.id,I J u.size,V u.note,Z uo un gQ,I J u.sent] 92 (0,0),K #[I J 0,Z U 0 0,Z U 0 0] 109 (0,0)] Sr.new (fun k=>LD k∧k<w.heap.size) (W.alloc (K #[V Tu.uJ,V n,V f,V g,V Tu.MO,V Tu.MP] 131))∧Below w.heap.size w (W.alloc (K #[V Tu.uJ,V n,V f,V g,V Tu.MO,V Tu.MP] 131)):=fun W j=>by
   have h1:=HT.stay mW j;have s:=(eY _ W).alloc (aM _) (K #[V Tu.uJ,V n,V f,V g,V Tu.MO,V Tu.MP] 131);exact⟨fM W #[V Tu.uJ,V n,V f,V g,V Tu.MO,V Tu.MP] 3 h1.sz (by decide) rfl,h1.stay mW s,then_ (then_ HB.o j) s⟩
  unfold Tu.uJ at NV;unfold Tu.MO Tu.MP at HFc;have s0:=N _ (eY _ _);have S:Below wc.heap.size wc wc.drew:=gy _ _;go_upto_region 4 with fail
  go_cut [4] (fun v4 G=>∃(ao:ak) (t:Nat),v4=Z ao 3 t∧gH G (w.heap.size+2) 131 2 ao t 3 (gG [(Tu.uJ,n),(f,g),(Tu.MO,Tu.MP)])∧iM Er LD w 0 [K #[I J u.id,I J u.size,V u.note,Z uo un gQ,I J u.sent] 92 (0,0),K #[I J 0,Z U 0 0,Z U 0 0] 109 (0,0)] Sr.new (fun k=>LD k∧k<w.heap.size) G∧Below w.heap.size w G)
  case first =>
   go_region_held3 (fun W=>W.cell? ⟨w.heap.size,3,U⟩=M (Z uo un gQ)∧W.cell? ⟨c,0,U⟩=M (V f)∧W.cell? ⟨c,1,U⟩=M (V g)) (go_keep) (first
    | (go_at_call 167;refine(NV _ (then_ HB.o (by first | with_reducible exact T.o | with_reducible exact S))).mono ?_;rintro e wC ⟨rfl,hC⟩;have hbC:=then_ (by first | with_reducible exact T.o | with_reducible exact S) hC;have HbC:=H9 hbC;obtain⟨a0,a1,a2⟩:=N _ hbC;clear hC hbC)
    | (go_at_call 121;refine(HFc _).mono ?_;rintro e wF ⟨rfl,hF⟩;have hbF:=then_ (by first | with_reducible exact HbC.o | with_reducible exact S) hF;have T:=H9 hbF;obtain⟨a0,a1,a2⟩:=N _ hbF;clear hF hbF))
   all_goals
    go_wp2;go_meet;first
     | exact⟨_,_,rfl,Oo _ T.o⟩
     | exact⟨_,_,rfl,Oo _ HbC.o⟩
  case rest =>
   obtain⟨ao,t,rfl,hO,hT,hB⟩:=hcut;have H5:=hT;have nX:=H9 hB;have zk:=H9 hO
   have x1:=HC _ _ _ H5;obtain⟨bm,hbm⟩:∃b,(u.note.toList==([]:av))=b:=⟨_,rfl⟩;have eM:u.note.size=0<->bm=true:=by
    rw[<-hbm,aS,Lib.toList_data];rw[<-List.length_eq_zero_iff,aO];exact Iff.rfl
   cases bm with
   | true =>
     rw[if_pos (eM.2 rfl)] at HD;go_wp2_with fail
     refine(jO 200 200 rfl [(Tu.uJ,n),(f,g),(Tu.MO,Tu.MP)] ao t 3 wc zk.o.qE rfl (by decide)).mono ?_;rintro e w9 ⟨jv,gU,n9,rfl,lK,jX,pV⟩;obtain⟨⟨z0,z1,z2,y0,y1,y2⟩,HE⟩:=H5.ends mW (i:=1) rfl (b:=w.heap.size+1) (by first | rfl | omega) (st:=200) (mg:=200) rfl lK (dB (dG _ _) H5.sz) jX pV;go_wp2;generalize (((w9.setCell ⟨w.heap.size+1,0,U⟩ (I J 200)).setCell ⟨w.heap.size+1,1,U⟩ (Z jv n9 gU)).setCell ⟨w.heap.size+1,2,U⟩ (Z U 0 0))=wf at *;obtain⟨q0,q1,q2,q3⟩:=HE.o;refine fI (v:=.agg #[I J 200,Z jv n9 gU,Z U 0 0]) (by simp[results,results124,go_sem,q0,q1,q2]) rfl ?_;rw[HD.o];exact zo.Xu q3
   | false =>
     rw[if_neg (fun e=>by have:=eM.1 e;cases this)] at HD;obtain⟨i0,hi0,hz0,hz1,hz2⟩:=info_parts pq;have Hi:=hi0;have kY:=H9 hz0;have kT:=H9 hz1;have kZ:=H9 hz2
     go_wp2_with fail
     refine(jV Tu.FX u.note wc).mono ?_;rintro e w6 ⟨rfl,hw6⟩;have s:=(eY _ w6).alloc (aM _) (K #[V Tu.FX,V u.note] 131);have H6:=(H5.stay mW hw6).stay mW s;have Yt:=(zk.o.stay hw6).alloc (K #[V Tu.FX,V u.note] 131);have HZ6:w.heap.size+2<=(w6.alloc (K #[V Tu.FX,V u.note] 131)).heap.size:=H6.sz;have HP6:∀(x:ak) (Fg:Nat) (w7:X),(w6.alloc (K #[V Tu.FX,V u.note] 131)).grownBy w7 (fV ao)->iM Er LD w 0 [K #[I J u.id,I J u.size,V u.note,Z uo un gQ,I J u.sent] 92 (0,0),K #[I J 0,Z U 0 0,Z U 0 0] 109 (0,0)] Sr.new (fun k=>LD k∧k<w.heap.size) w7:=fun x Fg w7 hG=>by
      cases ao with
      | none=>exact H6.stay mW ((eY _ _).grown hG (aM _) (fun q e=>by cases e))
      | some a =>
        have hab:=(Yt.block a rfl).1;exact H6.aside mW (b:=a.block) (Turns.iL hG (fun k e=>by injection e with e;exact e.symm)) hab (fun e=>e.1.elim)
     unfold Tu.FX at H6 Yt HZ6 HP6;go_wp2_with (at_builtin;refine gP rfl (.tmp 22) (.tmp 26) 80 rfl (w.heap.size+2) 131 i0 (.agg #[V ⟨#[]⟩,V ⟨#[]⟩]) 2 32 underlying80 Hi kY.o kT.o kZ.o rfl (by decide) rfl Yt rfl (ji.made w6 _ 1 _ _) rfl (IG _ _) (by decide) (by decide) HZ6 ?_;intro x Fg w7 hO7 hG7 _;have H7:=H9 (HP6 x Fg w7 hG7);have LC:=H9 (jO 200 200 rfl [(Tu.uJ,n),(f,g),(Tu.MO,Tu.MP),(Tu.FX,u.note)] x Fg 4 w7 hO7.qE rfl (by decide));clear hO7 hG7 HP6 Yt H6 HZ6)
     refine LC.o.mono ?_;rintro e w9 ⟨jv,gU,n9,rfl,lK,jX,pV⟩;obtain⟨⟨z0,z1,z2,y0,y1,y2⟩,HE⟩:=H7.o.ends mW (i:=1) rfl (b:=w.heap.size+1) (by first | rfl | omega) (st:=200) (mg:=200) rfl lK (dB (dG _ _) H7.o.sz) jX pV;go_wp2;generalize (((w9.setCell ⟨w.heap.size+1,0,U⟩ (I J 200)).setCell ⟨w.heap.size+1,1,U⟩ (Z jv n9 gU)).setCell ⟨w.heap.size+1,2,U⟩ (Z U 0 0))=wf at *;obtain⟨q0,q1,q2,q3⟩:=HE.o;refine fI (v:=.agg #[I J 200,Z jv n9 gU,Z U 0 0]) (by simp[results,results124,go_sem,q0,q1,q2]) rfl ?_;rw[HD.o];exact zo.Xu q3
section
variable {g:Nat} {m t:ay} {mi ln:Int} {l:au} {fo:ak} {fZ nf:Nat} {bo:ak} {fU nb:Nat} {w w0:X} {S:Nat->Prop} {s:Sr.Sh}
theorem LG (p:wu w0 w S)(h:gX w S g s)(ok:Sr.Ok s)(hF:pE w l fo fZ nf):
 Calls prog 122 #[.agg #[Q (M ⟨g,0,U⟩),V m,V t,I J mi,Z fo nf fZ,I J ln,Z bo nb fU]] w fun e w'=>lu S w g (Tu.post s m l) e w':=by
 have L:iM gX S w g [K #[Q (M ⟨g,0,U⟩),V m,V t,I J mi,Z fo nf fZ,I J ln,Z bo nb fU] 148 (0,0),K #[I J 0,Z U 0 0,Z U 0 0] 109 (0,0)] s (fun k=>S k∧k<w.heap.size) ((w.alloc (K #[Q (M ⟨g,0,U⟩),V m,V t,I J mi,Z fo nf fZ,I J ln,Z bo nb fU] 148)).alloc (K #[I J 0,Z U 0 0,Z U 0 0] 109)):=QC h _;have u:Below w.heap.size w ((w.alloc (K #[Q (M ⟨g,0,U⟩),V m,V t,I J mi,Z fo nf fZ,I J ln,Z bo nb fU] 148)).alloc (K #[I J 0,Z U 0 0,Z U 0 0] 109)):=then_ ((eY _ w).alloc (aM _) _) ((eY _ _).alloc (aM _) _);have HC:∀W s' S',iM gX S w g [K #[Q (M ⟨g,0,U⟩),V m,V t,I J mi,Z fo nf fZ,I J ln,Z bo nb fU] 148 (0,0),K #[I J 0,Z U 0 0,Z U 0 0] 109 (0,0)] s' S' W->W.cell? ⟨w.heap.size,0,U⟩=M (Q (M ⟨g,0,U⟩))∧W.cell? ⟨w.heap.size,1,U⟩=M (V m)∧W.cell? ⟨w.heap.size,2,U⟩=M (V t)∧W.cell? ⟨w.heap.size,3,U⟩=M (I J mi)∧W.cell? ⟨w.heap.size,4,U⟩=M (Z fo nf fZ)∧W.cell? ⟨w.heap.size,5,U⟩=M (I J ln)∧W.cell? ⟨w.heap.size,6,U⟩=M (Z bo nb fU):=fun W s' S' hW=>hW.ex;obtain⟨x0,x1,x2,x3,x4,x5,x6⟩:=HC _ _ _ L;have N:=hF;have rJ:=H9 ok;have JC:=H9 p
 obtain⟨T,hR⟩:∃T,T=Tu.post s m l:=⟨_,rfl⟩;rw[<-hR];unfold Tu.post at hR;have c:=H9 hR;obtain⟨bp,hbp⟩:∃b,(m.toList==([80,79,83,84]:av))=b:=⟨_,rfl⟩;have eP:m=Tu.AL<->bp=true:=by rw[<-hbp];exact Tu.Yq m Tu.AL _ rfl
 go_enter func122,ntmps122;cases bp with
 | false =>
   rw[if_pos (fun e=>by have:=eP.1 e;cases this)] at c;go_wp2_with fail
   refine(iJ 405 405 rfl _).mono ?_;rintro e D j;obtain⟨f,x,y,z,d⟩:=L.fell j;unfold iG at d;subst d;go_wp2;exact⟨rfl,by rw[c.o];exact f.o⟩
 | true =>
   rw[if_neg (fun e=>e (eP.2 rfl))] at c;go_wp2_with fail
   refine(iF 405 U 0 0 _).mono ?_;rintro e wq ⟨rfl,hw⟩;rw[hw];cases q:(Tu.jk (Tu.one (Tu.vals Tu.CV l))).2 with
   | false =>
     rw[if_pos q] at c;have IQ:=Sg (g:=g) (m:=m) (t:=t) (mi:=mi) (ln:=ln) (bo:=bo) (fU:=fU) (nb:=nb) (N.stay u) q;go_wp2_with fail
     refine(IQ).mono ?_;rintro e D j;obtain⟨f,x,y,z,d⟩:=L.fell j;unfold iG at d;subst d;go_wp2;exact⟨rfl,by rw[c.o];exact f.o⟩
   | true =>
     rw[if_neg (by rw[q];simp)] at c;obtain⟨hsz1,hsz2⟩:=Si (g:=g) (m:=m) (t:=t) (mi:=mi) (ln:=ln) (bo:=bo) (fU:=fU) (nb:=nb) (N.stay u) q;by_cases a:Tu.wY l
     . have IQ:=H9 (hsz1 a);unfold Tu.wY at a;rw[if_pos a] at c;go_wp2_with fail
       refine(IQ).mono ?_;rintro e D j;obtain⟨f,x,y,z,d⟩:=L.fell j;unfold iG at d;subst d;go_wp2;exact⟨rfl,by rw[c.o];exact f.o⟩
     . have IQ:=H9 (hsz2 a);unfold Tu.wY at a;rw[if_neg a] at c;generalize (Tu.jk (Tu.one (Tu.vals Tu.CV l))).1=n at *;go_wp2_with fail
       refine IQ.mono ?_;rintro e w3 ⟨rfl,hw3⟩;have B:=then_ u hw3;have H3:=L.stay iy hw3;obtain⟨x0,x1,x2,x3,x4,x5,x6⟩:=HC _ _ _ H3;have hzm:=N.val Tu.nUM;generalize hvm:Tu.one (Tu.vals Tu.nUM l)=rm at *;obtain⟨G,cm⟩:=rm;simp only at hzm c;by_cases C:cm=9
       . subst C;rw[if_pos rfl] at c;have H:=qK (g:=g) (m:=m) (t:=t) (mi:=mi) (ln:=ln) (bo:=bo) (fU:=fU) (nb:=nb) Tu.FX (by decide) (N.stay B) (by rw[Tu.KM];exact hvm);unfold Tu.FX at H;go_wp2_with fail
         refine(H).mono ?_;rintro e D j;obtain⟨f,x,y,z,d⟩:=H3.fell j;unfold iG at d;subst d;go_wp2;exact⟨rfl,by rw[c.o];exact f.o⟩
       . rw[if_neg C] at c;have H:=oH (g:=g) (m:=m) (t:=t) (mi:=mi) (ln:=ln) (bo:=bo) (fU:=fU) (nb:=nb) Tu.FX (by decide) (N.stay B) (by rw[Tu.KM];exact hvm) C;unfold Tu.FX at H;generalize decide (cm=0)=cb at *;have hzz:(Sr.ES G).size<=1000000:=by rw[Sr.JK];omega
         rw[show(⟨G.toArray⟩:ay)=Sr.ES G from rfl] at H;have Jg:(Sr.create s n (Sr.ES G)).2≠0->(Sr.create s n (Sr.ES G)).1=s:=fun e=>by unfold Sr.create at e ⊢;exact Tu.lN e
         generalize Sr.ES G=mb at *;go_wp2_with fail
         refine H.mono ?_;rintro e w4 ⟨rfl,hw4⟩;have kr:=then_ B hw4;have H4:=H3.stay iy hw4;obtain⟨x0,x1,x2,x3,x4,x5,x6⟩:=HC _ _ _ H4;have Lf:=zG H4.sh rJ.o n mb hzz;go_wp2_with fail
         refine Lf.mono ?_;rintro e w5 ⟨rfl,hat,hT⟩;have H5:=H4.did hat hT;generalize Sr.create s n mb=ra at *;obtain⟨sa,ca⟩:=ra;simp only at c Jg H5 ⊢;obtain⟨x0,x1,x2,x3,x4,x5,x6⟩:=HC _ _ _ H5;by_cases r:ca=0
         . subst r;rw[if_neg (by simp)] at c;have agV:=rJ.o.h.CJ;have agW:=rJ.o.FR;have Sj:Sr.CU s 0=s.h.last+1:=by unfold Sr.CU;rw[if_pos rfl]
           rw[Sj];have HIt:∀W,kD W->Calls prog 151 #[I J (s.h.last+1)] W fun e w'=>e=Y (V (Tu.dec (s.h.last+1).toNat))∧Below W.heap.size W w':=fun W hW=>by
            have:=pz (s.h.last+1).toNat (by omega) W hW;rw[show(((s.h.last+1).toNat:Nat):Int)=s.h.last+1 from by omega] at this;exact this
           have hdz:(Tu.dec (s.h.last+1).toNat).size<=9:=by
            show(Ch.iV 8 _).toArray.size<=9;rw[bK];have:=Ch.jm 8 (s.h.last+1).toNat;omega
           generalize Tu.dec (s.h.last+1).toNat=db at *;generalize s.h.last+1=lid at *;go_wp2_with fail
           refine(qb _).mono ?_;rintro e wq ⟨rfl,hw⟩;rw[hw];have IE:=nC H5.sh;go_wp2_with fail
           refine IE.mono ?_;rintro e w6 ⟨rfl,uR,BF⟩;have H6:=H5.turned uR BF;have HI6:=HIt w6 (H6.pow JC.o);go_wp2_with fail
           refine HI6.mono ?_;rintro e w7 ⟨rfl,hw7⟩;have H7:=H6.stay iy hw7;have JE:=jV Tu.fLo (Tu.kU++db) w7;unfold Tu.fLo Tu.kU at JE;go_wp2_with fail
           refine JE.mono ?_;rintro e w8 ⟨rfl,hw8⟩;have H8:=(H7.stay iy hw8).stay iy ((eY _ w8).alloc (aM _) (K #[V Tu.fLo,V (Tu.kU++db)] 131));have LC:=jO 201 201 rfl [(Tu.fLo,Tu.kU++db)] (M ⟨w8.heap.size,0,U⟩) 1 1 _ (ji.made w8 #[V Tu.fLo,V (Tu.kU++db)] 1 131 (0,0)) rfl (by decide);unfold Tu.fLo Tu.kU at LC H8;go_wp2_with fail
           refine LC.mono ?_;rintro e D ⟨x,y,z,rfl,lK,jX,pV⟩;obtain⟨⟨z0,z1,z2,y0,y1,y2⟩,f⟩:=H8.ends iy (i:=1) rfl (b:=w.heap.size+1) (by first | rfl | omega) (st:=201) (mg:=201) rfl lK (dB (dG _ _) H8.sz) jX pV;go_wp2;generalize (((D.setCell ⟨w.heap.size+1,0,U⟩ (I J 201)).setCell ⟨w.heap.size+1,1,U⟩ (Z x z y)).setCell ⟨w.heap.size+1,2,U⟩ (Z U 0 0))=wf at *;obtain⟨q0,q1,q2,q3⟩:=f.o;refine fI (v:=.agg #[I J 201,Z x z y,Z U 0 0]) (by simp[results,results122,go_sem,q0,q1,q2]) rfl ?_;rw[c.o];exact lu.of q3
         . rw[if_pos r] at c;have hsa:=Jg r;subst hsa;have HNd:=rF ca r w5;generalize Sr.CU sa ca=nn at *;go_wp2_with fail
           refine(HNd).mono ?_;rintro e D j;obtain⟨f,x,y,z,d⟩:=H5.fell j;unfold iG at d;subst d;go_wp2;exact⟨rfl,by rw[c.o];exact f.o⟩
end
section
variable {g:Nat} {m t:ay} {mi ln:Int} {l:au} {fo:ak} {fZ nf:Nat} {bo:ak} {fU nb:Nat} {w w0:X} {S:Nat->Prop} {s:Sr.Sh}
theorem iM.pw {O:Wm}{S':Nat->Prop}{bs:List Obj}{W:X}(h:iM O S w g bs s S' W)(p:wu w0 w S):wu w0 W S' :=
 ⟨p.pow, p.qy.trans (h.tu.below (fun k e => p.far k e.1) p.qy.size), fun k e => by
  have b:=p.qy.size;rcases h.ap k e with a | a
  . exact p.far k a.1
  . omega⟩
theorem OM (p:wu w0 w S)(h:gX w S g s)(ok:Sr.Ok s)(hF:pE w l fo fZ nf)(body:av)(hb:body.length=nb)(hB:gN w bo fU body)(hnb:nb<=100000)(ht:t.size<=100000):
 Calls prog 74 #[.agg #[Q (M ⟨g,0,U⟩),V m,V t,I J mi,Z fo nf fZ,I J ln,Z bo nb fU]] w fun e w'=>lu S w g (Tu.iQ s m t l body) e w':=by
 have T2:iM gX S w g [K #[Q (M ⟨g,0,U⟩),V m,V t,I J mi,Z fo nf fZ,I J ln,Z bo nb fU] 148 (0,0),K #[I J 0,Z U 0 0,Z U 0 0] 109 (0,0)] s (fun k=>S k∧k<w.heap.size) ((w.alloc (K #[Q (M ⟨g,0,U⟩),V m,V t,I J mi,Z fo nf fZ,I J ln,Z bo nb fU] 148)).alloc (K #[I J 0,Z U 0 0,Z U 0 0] 109)):=QC h _;have N:Hid (Below w.heap.size w ((w.alloc (K #[Q (M ⟨g,0,U⟩),V m,V t,I J mi,Z fo nf fZ,I J ln,Z bo nb fU] 148)).alloc (K #[I J 0,Z U 0 0,Z U 0 0] 109))):=then_ ((eY _ w).alloc (aM _) _) ((eY _ _).alloc (aM _) _);have HC:Hid (∀W s' S',iM gX S w g [K #[Q (M ⟨g,0,U⟩),V m,V t,I J mi,Z fo nf fZ,I J ln,Z bo nb fU] 148 (0,0),K #[I J 0,Z U 0 0,Z U 0 0] 109 (0,0)] s' S' W->W.cell? ⟨w.heap.size,0,U⟩=M (Q (M ⟨g,0,U⟩))∧W.cell? ⟨w.heap.size,1,U⟩=M (V m)∧W.cell? ⟨w.heap.size,2,U⟩=M (V t)∧W.cell? ⟨w.heap.size,3,U⟩=M (I J mi)∧W.cell? ⟨w.heap.size,4,U⟩=M (Z fo nf fZ)∧W.cell? ⟨w.heap.size,5,U⟩=M (I J ln)∧W.cell? ⟨w.heap.size,6,U⟩=M (Z bo nb fU)):=fun W s' S' hW=>hW.ex;obtain⟨x0,x1,x2,x3,x4,x5,x6⟩:=HC.o _ _ _ T2;have H2:=H9 T2;have HF:=H9 hF;have rJ:=H9 ok;have JC:=H9 p;have zP:=H9 hB;have HBl:=H9 hb
 clear T2 hF ok p h hB hb;obtain⟨aaj,hR⟩:∃aaj,aaj=Tu.iQ s m t l body:=⟨_,rfl⟩;rw[<-hR];unfold Tu.iQ at hR;have a:=H9 hR;clear hR;obtain⟨bf,hbf⟩:∃b,(t.toList==([47,102,105,108,101,115]:av))=b:=⟨_,rfl⟩;have eF:t=Tu.rU<->bf=true:=by rw[<-hbf];exact Tu.Yq t Tu.rU _ rfl
 obtain⟨bo_,agY⟩:∃b,(m.toList==([79,80,84,73,79,78,83]:av))=b:=⟨_,rfl⟩;have eO:m=Tu.abd<->bo_=true:=by rw[<-agY];exact Tu.Yq m Tu.abd _ rfl
 go_enter func74,ntmps74;cases bf with
 | true =>
   have HTf:=H9 (eF.2 rfl);cases bo_ with
   | true =>
     rw[if_pos ⟨eF.2 rfl,eO.2 rfl⟩] at a;have HOp:Hid (Calls prog 118 #[] ((w.alloc (K #[Q (M ⟨g,0,U⟩),V m,V t,I J mi,Z fo nf fZ,I J ln,Z bo nb fU] 148)).alloc (K #[I J 0,Z U 0 0,Z U 0 0] 109)) fun e w'=>∃(ao:ak) (cap k:Nat),e=Y (.agg #[I J 204,Z ao k cap,Z U 0 0])∧(Tu.said 204 [(Tu.xB,Tu.jG),(Tu.Vh,Tu.vg),(Tu.Yn,Tu.Yo)]).2.length=k∧gH w' ((w.alloc (K #[Q (M ⟨g,0,U⟩),V m,V t,I J mi,Z fo nf fZ,I J ln,Z bo nb fU] 148)).alloc (K #[I J 0,Z U 0 0,Z U 0 0] 109)).heap.size 131 2 ao cap k (gG (Tu.said 204 [(Tu.xB,Tu.jG),(Tu.Vh,Tu.vg),(Tu.Yn,Tu.Yo)]).2)∧Below ((w.alloc (K #[Q (M ⟨g,0,U⟩),V m,V t,I J mi,Z fo nf fZ,I J ln,Z bo nb fU] 148)).alloc (K #[I J 0,Z U 0 0,Z U 0 0] 109)).heap.size ((w.alloc (K #[Q (M ⟨g,0,U⟩),V m,V t,I J mi,Z fo nf fZ,I J ln,Z bo nb fU] 148)).alloc (K #[I J 0,Z U 0 0,Z U 0 0] 109)) w'):=Jh _ (H2.o.pow JC.o);clear eF eO;go_wp2_with fail
     refine HOp.o.mono ?_;rintro e y ⟨j,n,q,rfl,f,c,C⟩;obtain⟨⟨z0,z1,z2,y0,y1,y2⟩,d⟩:=H2.o.ends iy (i:=1) rfl (b:=w.heap.size+1) (by first | rfl | omega) (st:=204) (mg:=204) rfl f (dB (dG _ _) H2.o.sz) c C;clear f c C;go_wp2;generalize (((y.setCell ⟨w.heap.size+1,0,U⟩ (I J 204)).setCell ⟨w.heap.size+1,1,U⟩ (Z j q n)).setCell ⟨w.heap.size+1,2,U⟩ (Z U 0 0))=wf at *;obtain⟨q0,q1,q2,q3⟩:=d.o;refine fI (v:=.agg #[I J 204,Z j q n,Z U 0 0]) (by simp[results,results74,go_sem,q0,q1,q2]) rfl ?_;rw[a.o];exact lu.of q3
   | false =>
     rw[if_neg (fun e=>by have:=eO.1 e.2;cases this)] at a;clear eF eO;have Cx:=HF.o.val Tu.YM;generalize QI:Tu.one (Tu.vals Tu.YM l)=rr at *;obtain⟨vr,cr⟩:=rr;simp only at Cx a;by_cases QJ:cr=9
     . subst QJ;rw[if_pos rfl] at a;have HT:=H9 (qK (g:=g) (m:=m) (t:=t) (mi:=mi) (ln:=ln) (bo:=bo) (fU:=fU) (nb:=nb) Tu.AO (by decide) (HF.o.stay N.o) (by rw[Tu.sV];exact QI));unfold Tu.AO at HT;clear QI Cx;go_wp2_with fail
       refine(HT.o).mono ?_;rintro e y hG;obtain⟨d,j,n,q,he⟩:=H2.o.fell hG;unfold iG at he;subst he;clear hG;go_wp2;exact⟨rfl,by rw[a.o];exact d.o⟩
     rw[if_neg QJ] at a;have HT:=H9 (oH (g:=g) (m:=m) (t:=t) (mi:=mi) (ln:=ln) (bo:=bo) (fU:=fU) (nb:=nb) Tu.AO (by decide) (HF.o.stay N.o) (by rw[Tu.sV];exact QI) QJ);unfold Tu.AO at HT;clear QI Cx QJ;generalize decide (cr=0)=cb at *;obtain⟨bv,hbv⟩:∃b,((⟨vr.toArray⟩:ay).toList==([49,46,48,46,48]:av))=b:=⟨_,rfl⟩;have eV:vr=Tu.jG.data.toList<->bv=true:=by rw[<-hbv];exact Tu.eqV vr _
     generalize (⟨vr.toArray⟩:ay)=vb at *;go_wp2_with fail
     refine(HT.o).mono ?_;rintro e w3 ⟨rfl,r⟩;have HB3:=H9 (then_ N.o r);have H3:=H9 (H2.o.stay iy r);clear r H2 N x0 x1 x2 x3 x4 x5 x6;obtain⟨x0,x1,x2,x3,x4,x5,x6⟩:=HC.o _ _ _ H3.o;clear HT;have JE:=H9 (jV Tu.xB Tu.jG w3);unfold Tu.xB Tu.jG at JE;go_wp2_with fail
     refine JE.o.mono ?_;rintro e w4 ⟨rfl,r⟩;have x:=(eY _ w4).alloc (aM _) (K #[V Tu.xB,V Tu.jG] 131);have D:=H9 ((H3.o.stay iy r).stay iy x);have kr:=H9 (then_ (then_ HB3.o r) x);have vW:=H9 (zq 412 412 rfl [(Tu.xB,Tu.jG)] (M ⟨w4.heap.size,0,U⟩) 1 1 _ (ji.made w4 #[V Tu.xB,V Tu.jG] 1 131 (0,0)) rfl (by decide));clear r x JE H3 HB3 x0 x1 x2 x3 x4 x5 x6;cases bv with
     | false =>
       rw[if_pos (fun e=>by have:=eV.1 e;cases this)] at a;unfold Tu.xB Tu.jG at vW D;go_wp2_with fail
       refine(vW.o).mono ?_;rintro e y hG;obtain⟨d,j,n,q,he⟩:=D.o.fell hG;unfold iG at he;subst he;clear hG;go_wp2;exact⟨rfl,by rw[a.o];exact d.o⟩
     | true =>
     rw[if_neg (fun e=>e (eV.2 rfl))] at a;clear eV vW;obtain⟨x0,x1,x2,x3,x4,x5,x6⟩:=HC.o _ _ _ D.o;unfold Tu.xB Tu.jG at x0 x1 x2 x3 x4 x5 x6 D kr;go_wp2_with fail
     refine(iF 412 _ _ _ _).mono ?_;rintro e wq ⟨rfl,r⟩;rw[r];clear r;generalize (w4.alloc (K #[V ⟨#[84,117,115,45,86,101,114,115,105,111,110]⟩,V ⟨#[49,46,48,46,48]⟩] 131))=w5 at *;rw[if_pos HTf.o] at a;have Lf:=H9 (LG (g:=g) (m:=m) (t:=t) (mi:=mi) (ln:=ln) (bo:=bo) (fU:=fU) (nb:=nb) (D.o.pw JC.o) D.o.sh rJ.o (HF.o.stay kr.o));generalize Tu.post s m l=r9 at *;obtain⟨sr,st,lr⟩:=r9;go_wp2_with fail
     refine(Lf.o).mono ?_;rintro e y hE;cases hE with
     | @gave j n q _ f c G H =>
       have d:=H9 (D.o.Lj f c G H);unfold iG at d ⊢;clear f c G H;go_wp2;exact⟨rfl,by rw[a.o];exact d.o⟩
     | @ret j n q _ f c G H =>
       have GU:=D.o.did G H;replace c:=c.mono (dB (dG _ _) D.o.sz);have C:=eY y.heap.size y;obtain⟨⟨z0,z1,z2,y0,y1,y2⟩,d⟩:=GU.ends iy (i:=1) rfl (b:=w.heap.size+1) (by first | rfl | omega) (st:=st) (mg:=(st:Int)) rfl f (aM _) c C;clear f c C G H GU;go_wp2;generalize (((y.setCell ⟨w.heap.size+1,0,U⟩ (I J (st:Int))).setCell ⟨w.heap.size+1,1,U⟩ (Z j q n)).setCell ⟨w.heap.size+1,2,U⟩ (Z U 0 0))=wf at *;obtain⟨q0,q1,q2,q3⟩:=d.o;refine fI (v:=.agg #[I J (st:Int),Z j q n,Z U 0 0]) (by simp[results,results74,go_sem,q0,q1,q2]) rfl ?_;rw[a.o];exact lu.of q3
 | false =>
   have HTf:Hid (¬t=Tu.rU):=fun e=>by have:=eF.1 e;cases this
   rw[if_neg (fun e=>HTf.o e.1)] at a;clear eF eO;cases bo_ with
   | true =>
     have Cx:=HF.o.val Tu.YM;generalize QI:Tu.one (Tu.vals Tu.YM l)=rr at *;obtain⟨vr,cr⟩:=rr;simp only at Cx a;by_cases QJ:cr=9
     . subst QJ;rw[if_pos rfl] at a;have HT:=H9 (qK (g:=g) (m:=m) (t:=t) (mi:=mi) (ln:=ln) (bo:=bo) (fU:=fU) (nb:=nb) Tu.AO (by decide) (HF.o.stay N.o) (by rw[Tu.sV];exact QI));unfold Tu.AO at HT;clear QI Cx;go_wp2_with fail
       refine(HT.o).mono ?_;rintro e y hG;obtain⟨d,j,n,q,he⟩:=H2.o.fell hG;unfold iG at he;subst he;clear hG;go_wp2;exact⟨rfl,by rw[a.o];exact d.o⟩
     rw[if_neg QJ] at a;have HT:=H9 (oH (g:=g) (m:=m) (t:=t) (mi:=mi) (ln:=ln) (bo:=bo) (fU:=fU) (nb:=nb) Tu.AO (by decide) (HF.o.stay N.o) (by rw[Tu.sV];exact QI) QJ);unfold Tu.AO at HT;clear QI Cx QJ;generalize decide (cr=0)=cb at *;obtain⟨bv,hbv⟩:∃b,((⟨vr.toArray⟩:ay).toList==([49,46,48,46,48]:av))=b:=⟨_,rfl⟩;have eV:vr=Tu.jG.data.toList<->bv=true:=by rw[<-hbv];exact Tu.eqV vr _
     generalize (⟨vr.toArray⟩:ay)=vb at *;go_wp2_with fail
     refine(HT.o).mono ?_;rintro e w3 ⟨rfl,r⟩;have HB3:=H9 (then_ N.o r);have H3:=H9 (H2.o.stay iy r);clear r H2 N x0 x1 x2 x3 x4 x5 x6;obtain⟨x0,x1,x2,x3,x4,x5,x6⟩:=HC.o _ _ _ H3.o;clear HT;have JE:=H9 (jV Tu.xB Tu.jG w3);unfold Tu.xB Tu.jG at JE;go_wp2_with fail
     refine JE.o.mono ?_;rintro e w4 ⟨rfl,r⟩;have x:=(eY _ w4).alloc (aM _) (K #[V Tu.xB,V Tu.jG] 131);have D:=H9 ((H3.o.stay iy r).stay iy x);have kr:=H9 (then_ (then_ HB3.o r) x);have vW:=H9 (zq 412 412 rfl [(Tu.xB,Tu.jG)] (M ⟨w4.heap.size,0,U⟩) 1 1 _ (ji.made w4 #[V Tu.xB,V Tu.jG] 1 131 (0,0)) rfl (by decide));clear r x JE H3 HB3 x0 x1 x2 x3 x4 x5 x6;cases bv with
     | false =>
       rw[if_pos (fun e=>by have:=eV.1 e;cases this)] at a;unfold Tu.xB Tu.jG at vW D;go_wp2_with fail
       refine(vW.o).mono ?_;rintro e y hG;obtain⟨d,j,n,q,he⟩:=D.o.fell hG;unfold iG at he;subst he;clear hG;go_wp2;exact⟨rfl,by rw[a.o];exact d.o⟩
     | true =>
     rw[if_neg (fun e=>e (eV.2 rfl))] at a;clear eV vW;obtain⟨x0,x1,x2,x3,x4,x5,x6⟩:=HC.o _ _ _ D.o;unfold Tu.xB Tu.jG at x0 x1 x2 x3 x4 x5 x6 D kr;go_wp2_with fail
     refine(iF 412 _ _ _ _).mono ?_;rintro e wq ⟨rfl,r⟩;rw[r];clear r;generalize (w4.alloc (K #[V ⟨#[84,117,115,45,86,101,114,115,105,111,110]⟩,V ⟨#[49,46,48,46,48]⟩] 131))=w5 at *;rw[if_neg HTf.o] at a;obtain⟨OO,OP⟩:=BA (g:=g) (m:=m) (t:=t) (mi:=mi) (ln:=ln) (fo:=fo) (fZ:=fZ) (nf:=nf) (bo:=bo) (fU:=fU) (nb:=nb) D.o.sh rJ.o (D.o.pow JC.o) ht;cases OQ:Tu.zV s.h t with
     | none =>
       rw[OQ] at a;simp only at a;have OT:=H9 (OO OQ);clear OO OP OQ;go_wp2_with fail
       refine(OT.o).mono ?_;rintro e y hG;obtain⟨d,j,n,q,he⟩:=D.o.fell hG;unfold iG at he;subst he;clear hG;go_wp2;exact⟨rfl,by rw[a.o];exact d.o⟩
     | some u =>
     rw[OQ] at a;simp only at a;have OT:=H9 (OP u OQ);have hmem:=(Tu.CX OQ).1;have ZJ:=rJ.o.h.all u hmem;have UH:=ZJ.long;have hs0:=ZJ.Ay;have hs1:=ZJ.CG
     clear OO OP OQ hmem ZJ;obtain⟨L,hun⟩:∃L,u.bytes.length=L:=⟨_,rfl⟩;have HUn:=H9 hun;rw[hun] at UH;rw[hun] at OT;clear hun;go_wp2_with fail
     refine OT.o.mono ?_;rintro e z ⟨T,gQ,rfl,r⟩;have x:=(eY _ z).alloc (aM _) (K #[I J u.id,I J u.size,V u.note,Z T L gQ,I J u.sent] 92);have B:=H9 ((D.o.stay iy r).stay iy x);have xA:=H9 (then_ (then_ kr.o r) x);clear r x OT D kr x0 x1 x2 x3 x4 x5 x6;obtain⟨x0,x1,x2,x3,x4,x5,x6⟩:=HC.o _ _ _ B.o;have v0:(z.alloc (K #[I J u.id,I J u.size,V u.note,Z T L gQ,I J u.sent] 92)).cell? ⟨z.heap.size,0,U⟩=M (I J u.id):=World.cell?_alloc_mark z _ _ _ 0;have v1:(z.alloc (K #[I J u.id,I J u.size,V u.note,Z T L gQ,I J u.sent] 92)).cell? ⟨z.heap.size,1,U⟩=M (I J u.size):=World.cell?_alloc_mark z _ _ _ 1;have v2:(z.alloc (K #[I J u.id,I J u.size,V u.note,Z T L gQ,I J u.sent] 92)).cell? ⟨z.heap.size,2,U⟩=M (V u.note):=World.cell?_alloc_mark z _ _ _ 2;have v3:(z.alloc (K #[I J u.id,I J u.size,V u.note,Z T L gQ,I J u.sent] 92)).cell? ⟨z.heap.size,3,U⟩=M (Z T L gQ):=World.cell?_alloc_mark z _ _ _ 3;have v4:(z.alloc (K #[I J u.id,I J u.size,V u.note,Z T L gQ,I J u.sent] 92)).cell? ⟨z.heap.size,4,U⟩=M (I J u.sent):=World.cell?_alloc_mark z _ _ _ 4;go_upto_region 8 with fail
     generalize (z.alloc (K #[I J u.id,I J u.size,V u.note,Z T L gQ,I J u.sent] 92))=w7 at *;generalize z.heap.size=k6 at *;unfold Tu.M8 at a;obtain⟨bh,hbh⟩:∃b,(m.toList==([72,69,65,68]:av))=b:=⟨_,rfl⟩;have eH:m=Tu.JU<->bh=true:=by rw[<-hbh];exact Tu.Yq m Tu.JU _ rfl
     cases bh with
     | true =>
       rw[if_pos (eH.2 rfl)] at a;have HDs:Hid (Calls prog 124 #[.agg #[I J u.id,I J u.size,V u.note,Z T L gQ,I J u.sent]] w7 fun e w'=>∃(ao:ak) (cap k:Nat),e=Y (.agg #[I J 200,Z ao k cap,Z U 0 0])∧(Tu.head u).2.length=k∧gH w' w7.heap.size 131 2 ao cap k (gG (Tu.head u).2)∧Below w7.heap.size w7 w'):=xI u T L gQ HUn.o hs0 hs1 UH w7 (B.o.pow JC.o);have QK:Hid (Tu.head u=(200,(Tu.head u).2)):=by unfold Hid;rfl
       rw[QK.o] at a;clear eH QK;generalize (Tu.head u).2=lh at *;go_wp2_with fail
       refine HDs.o.mono ?_;rintro e y ⟨j,n,q,rfl,f,c,C⟩;obtain⟨⟨z0,z1,z2,y0,y1,y2⟩,d⟩:=B.o.ends iy (i:=1) rfl (b:=w.heap.size+1) (by first | rfl | omega) (st:=200) (mg:=200) rfl f (dB (dG _ _) B.o.sz) c C;clear f c C;go_wp2;generalize (((y.setCell ⟨w.heap.size+1,0,U⟩ (I J 200)).setCell ⟨w.heap.size+1,1,U⟩ (Z j q n)).setCell ⟨w.heap.size+1,2,U⟩ (Z U 0 0))=wf at *;obtain⟨q0,q1,q2,q3⟩:=d.o;refine fI (v:=.agg #[I J 200,Z j q n,Z U 0 0]) (by simp[results,results74,go_sem,q0,q1,q2]) rfl ?_;rw[a.o];exact lu.of q3
     | false =>
     rw[if_neg (fun e=>by have:=eH.1 e;cases this)] at a;clear eH;obtain⟨bt,hbt⟩:∃b,(m.toList==([80,65,84,67,72]:av))=b:=⟨_,rfl⟩;have eT:m=Tu.Vf<->bt=true:=by rw[<-hbt];exact Tu.Yq m Tu.Vf _ rfl
     cases bt with
     | true =>
       rw[if_neg (fun e=>by have:=(eT.2 rfl).symm.trans e;revert this;decide),if_pos (eT.2 rfl)] at a;have HEx:=H9 (BJ (g:=g) (m:=m) (t:=t) (mi:=mi) (ln:=ln) (bo:=bo) (fU:=fU) (nb:=nb) (B.o.pw JC.o) B.o.sh rJ.o (HF.o.stay xA.o) body HBl.o (zP.o.stay xA.o) hnb u T L gQ HUn.o UH hs0);clear eT;generalize Tu.patch s u l body=r9 at *;obtain⟨sr,st,lr⟩:=r9;go_wp2_with fail
       refine(HEx.o).mono ?_;rintro e y hE;cases hE with
       | @gave j n q _ f c G H =>
         have d:=H9 (B.o.Lj f c G H);unfold iG at d ⊢;clear f c G H;go_wp2;exact⟨rfl,by rw[a.o];exact d.o⟩
       | @ret j n q _ f c G H =>
         have GU:=B.o.did G H;replace c:=c.mono (dB (dG _ _) B.o.sz);have C:=eY y.heap.size y;obtain⟨⟨z0,z1,z2,y0,y1,y2⟩,d⟩:=GU.ends iy (i:=1) rfl (b:=w.heap.size+1) (by first | rfl | omega) (st:=st) (mg:=(st:Int)) rfl f (aM _) c C;clear f c C G H GU;go_wp2;generalize (((y.setCell ⟨w.heap.size+1,0,U⟩ (I J (st:Int))).setCell ⟨w.heap.size+1,1,U⟩ (Z j q n)).setCell ⟨w.heap.size+1,2,U⟩ (Z U 0 0))=wf at *;obtain⟨q0,q1,q2,q3⟩:=d.o;refine fI (v:=.agg #[I J (st:Int),Z j q n,Z U 0 0]) (by simp[results,results74,go_sem,q0,q1,q2]) rfl ?_;rw[a.o];exact lu.of q3
     | false =>
     obtain⟨bd,hbd⟩:∃b,(m.toList==([68,69,76,69,84,69]:av))=b:=⟨_,rfl⟩;have eD:m=Tu.Ve<->bd=true:=by rw[<-hbd];exact Tu.Yq m Tu.Ve _ rfl
     cases bd with
     | true =>
       rw[if_pos (eD.2 rfl)] at a;have HRe:=H9 (BI (g:=g) (m:=m) (t:=t) (mi:=mi) (ln:=ln) (fo:=fo) (fZ:=fZ) (nf:=nf) (bo:=bo) (fU:=fU) (nb:=nb) B.o.sh rJ.o u T L gQ);clear eT eD;generalize (Sr.sync (Sr.drop s u.id).1,Tu.said 204 [])=r9 at *;obtain⟨sr,st,lr⟩:=r9;go_wp2_with fail
       refine(HRe.o).mono ?_;rintro e y hE;cases hE with
       | @gave j n q _ f c G H =>
         have d:=H9 (B.o.Lj f c G H);unfold iG at d ⊢;clear f c G H;go_wp2;exact⟨rfl,by rw[a.o];exact d.o⟩
       | @ret j n q _ f c G H =>
         have GU:=B.o.did G H;replace c:=c.mono (dB (dG _ _) B.o.sz);have C:=eY y.heap.size y;obtain⟨⟨z0,z1,z2,y0,y1,y2⟩,d⟩:=GU.ends iy (i:=1) rfl (b:=w.heap.size+1) (by first | rfl | omega) (st:=st) (mg:=(st:Int)) rfl f (aM _) c C;clear f c C G H GU;go_wp2;generalize (((y.setCell ⟨w.heap.size+1,0,U⟩ (I J (st:Int))).setCell ⟨w.heap.size+1,1,U⟩ (Z j q n)).setCell ⟨w.heap.size+1,2,U⟩ (Z U 0 0))=wf at *;obtain⟨q0,q1,q2,q3⟩:=d.o;refine fI (v:=.agg #[I J (st:Int),Z j q n,Z U 0 0]) (by simp[results,results74,go_sem,q0,q1,q2]) rfl ?_;rw[a.o];exact lu.of q3
     | false =>
     rw[if_neg (fun e=>by have:=eD.1 e;cases this),if_neg (fun e=>by have:=eT.1 e;cases this)] at a;have LC:=H9 (jO 405 405 rfl [] U 0 0 w7 (ji.nil w7) rfl (by decide));clear eT eD;go_wp2_with fail
     refine LC.o.mono ?_;rintro e y ⟨j,n,q,rfl,f,c,C⟩;obtain⟨⟨z0,z1,z2,y0,y1,y2⟩,d⟩:=B.o.ends iy (i:=1) rfl (b:=w.heap.size+1) (by first | rfl | omega) (st:=405) (mg:=405) rfl f (dB (dG _ _) B.o.sz) c C;clear f c C;go_wp2;generalize (((y.setCell ⟨w.heap.size+1,0,U⟩ (I J 405)).setCell ⟨w.heap.size+1,1,U⟩ (Z j q n)).setCell ⟨w.heap.size+1,2,U⟩ (Z U 0 0))=wf at *;obtain⟨q0,q1,q2,q3⟩:=d.o;refine fI (v:=.agg #[I J 405,Z j q n,Z U 0 0]) (by simp[results,results74,go_sem,q0,q1,q2]) rfl ?_;rw[a.o];exact lu.of q3
   | false =>
     have Cx:=HF.o.val Tu.YM;generalize QI:Tu.one (Tu.vals Tu.YM l)=rr at *;obtain⟨vr,cr⟩:=rr;simp only at Cx a;by_cases QJ:cr=9
     . subst QJ;rw[if_pos rfl] at a;have HT:=H9 (qK (g:=g) (m:=m) (t:=t) (mi:=mi) (ln:=ln) (bo:=bo) (fU:=fU) (nb:=nb) Tu.AO (by decide) (HF.o.stay N.o) (by rw[Tu.sV];exact QI));unfold Tu.AO at HT;clear QI Cx;go_wp2_with fail
       refine(HT.o).mono ?_;rintro e y hG;obtain⟨d,j,n,q,he⟩:=H2.o.fell hG;unfold iG at he;subst he;clear hG;go_wp2;exact⟨rfl,by rw[a.o];exact d.o⟩
     rw[if_neg QJ] at a;have HT:=H9 (oH (g:=g) (m:=m) (t:=t) (mi:=mi) (ln:=ln) (bo:=bo) (fU:=fU) (nb:=nb) Tu.AO (by decide) (HF.o.stay N.o) (by rw[Tu.sV];exact QI) QJ);unfold Tu.AO at HT;clear QI Cx QJ;generalize decide (cr=0)=cb at *;obtain⟨bv,hbv⟩:∃b,((⟨vr.toArray⟩:ay).toList==([49,46,48,46,48]:av))=b:=⟨_,rfl⟩;have eV:vr=Tu.jG.data.toList<->bv=true:=by rw[<-hbv];exact Tu.eqV vr _
     generalize (⟨vr.toArray⟩:ay)=vb at *;go_wp2_with fail
     refine(HT.o).mono ?_;rintro e w3 ⟨rfl,r⟩;have HB3:=H9 (then_ N.o r);have H3:=H9 (H2.o.stay iy r);clear r H2 N x0 x1 x2 x3 x4 x5 x6;obtain⟨x0,x1,x2,x3,x4,x5,x6⟩:=HC.o _ _ _ H3.o;clear HT;have JE:=H9 (jV Tu.xB Tu.jG w3);unfold Tu.xB Tu.jG at JE;go_wp2_with fail
     refine JE.o.mono ?_;rintro e w4 ⟨rfl,r⟩;have x:=(eY _ w4).alloc (aM _) (K #[V Tu.xB,V Tu.jG] 131);have D:=H9 ((H3.o.stay iy r).stay iy x);have kr:=H9 (then_ (then_ HB3.o r) x);have vW:=H9 (zq 412 412 rfl [(Tu.xB,Tu.jG)] (M ⟨w4.heap.size,0,U⟩) 1 1 _ (ji.made w4 #[V Tu.xB,V Tu.jG] 1 131 (0,0)) rfl (by decide));clear r x JE H3 HB3 x0 x1 x2 x3 x4 x5 x6;cases bv with
     | false =>
       rw[if_pos (fun e=>by have:=eV.1 e;cases this)] at a;unfold Tu.xB Tu.jG at vW D;go_wp2_with fail
       refine(vW.o).mono ?_;rintro e y hG;obtain⟨d,j,n,q,he⟩:=D.o.fell hG;unfold iG at he;subst he;clear hG;go_wp2;exact⟨rfl,by rw[a.o];exact d.o⟩
     | true =>
     rw[if_neg (fun e=>e (eV.2 rfl))] at a;clear eV vW;obtain⟨x0,x1,x2,x3,x4,x5,x6⟩:=HC.o _ _ _ D.o;unfold Tu.xB Tu.jG at x0 x1 x2 x3 x4 x5 x6 D kr;go_wp2_with fail
     refine(iF 412 _ _ _ _).mono ?_;rintro e wq ⟨rfl,r⟩;rw[r];clear r;generalize (w4.alloc (K #[V ⟨#[84,117,115,45,86,101,114,115,105,111,110]⟩,V ⟨#[49,46,48,46,48]⟩] 131))=w5 at *;rw[if_neg HTf.o] at a;obtain⟨OO,OP⟩:=BA (g:=g) (m:=m) (t:=t) (mi:=mi) (ln:=ln) (fo:=fo) (fZ:=fZ) (nf:=nf) (bo:=bo) (fU:=fU) (nb:=nb) D.o.sh rJ.o (D.o.pow JC.o) ht;cases OQ:Tu.zV s.h t with
     | none =>
       rw[OQ] at a;simp only at a;have OT:=H9 (OO OQ);clear OO OP OQ;go_wp2_with fail
       refine(OT.o).mono ?_;rintro e y hG;obtain⟨d,j,n,q,he⟩:=D.o.fell hG;unfold iG at he;subst he;clear hG;go_wp2;exact⟨rfl,by rw[a.o];exact d.o⟩
     | some u =>
     rw[OQ] at a;simp only at a;have OT:=H9 (OP u OQ);have hmem:=(Tu.CX OQ).1;have ZJ:=rJ.o.h.all u hmem;have UH:=ZJ.long;have hs0:=ZJ.Ay;have hs1:=ZJ.CG
     clear OO OP OQ hmem ZJ;obtain⟨L,hun⟩:∃L,u.bytes.length=L:=⟨_,rfl⟩;have HUn:=H9 hun;rw[hun] at UH;rw[hun] at OT;clear hun;go_wp2_with fail
     refine OT.o.mono ?_;rintro e z ⟨T,gQ,rfl,r⟩;have x:=(eY _ z).alloc (aM _) (K #[I J u.id,I J u.size,V u.note,Z T L gQ,I J u.sent] 92);have B:=H9 ((D.o.stay iy r).stay iy x);have xA:=H9 (then_ (then_ kr.o r) x);clear r x OT D kr x0 x1 x2 x3 x4 x5 x6;obtain⟨x0,x1,x2,x3,x4,x5,x6⟩:=HC.o _ _ _ B.o;have v0:(z.alloc (K #[I J u.id,I J u.size,V u.note,Z T L gQ,I J u.sent] 92)).cell? ⟨z.heap.size,0,U⟩=M (I J u.id):=World.cell?_alloc_mark z _ _ _ 0;have v1:(z.alloc (K #[I J u.id,I J u.size,V u.note,Z T L gQ,I J u.sent] 92)).cell? ⟨z.heap.size,1,U⟩=M (I J u.size):=World.cell?_alloc_mark z _ _ _ 1;have v2:(z.alloc (K #[I J u.id,I J u.size,V u.note,Z T L gQ,I J u.sent] 92)).cell? ⟨z.heap.size,2,U⟩=M (V u.note):=World.cell?_alloc_mark z _ _ _ 2;have v3:(z.alloc (K #[I J u.id,I J u.size,V u.note,Z T L gQ,I J u.sent] 92)).cell? ⟨z.heap.size,3,U⟩=M (Z T L gQ):=World.cell?_alloc_mark z _ _ _ 3;have v4:(z.alloc (K #[I J u.id,I J u.size,V u.note,Z T L gQ,I J u.sent] 92)).cell? ⟨z.heap.size,4,U⟩=M (I J u.sent):=World.cell?_alloc_mark z _ _ _ 4;go_upto_region 8 with fail
     generalize (z.alloc (K #[I J u.id,I J u.size,V u.note,Z T L gQ,I J u.sent] 92))=w7 at *;generalize z.heap.size=k6 at *;unfold Tu.M8 at a;obtain⟨bh,hbh⟩:∃b,(m.toList==([72,69,65,68]:av))=b:=⟨_,rfl⟩;have eH:m=Tu.JU<->bh=true:=by rw[<-hbh];exact Tu.Yq m Tu.JU _ rfl
     cases bh with
     | true =>
       rw[if_pos (eH.2 rfl)] at a;have HDs:Hid (Calls prog 124 #[.agg #[I J u.id,I J u.size,V u.note,Z T L gQ,I J u.sent]] w7 fun e w'=>∃(ao:ak) (cap k:Nat),e=Y (.agg #[I J 200,Z ao k cap,Z U 0 0])∧(Tu.head u).2.length=k∧gH w' w7.heap.size 131 2 ao cap k (gG (Tu.head u).2)∧Below w7.heap.size w7 w'):=xI u T L gQ HUn.o hs0 hs1 UH w7 (B.o.pow JC.o);have QK:Hid (Tu.head u=(200,(Tu.head u).2)):=by unfold Hid;rfl
       rw[QK.o] at a;clear eH QK;generalize (Tu.head u).2=lh at *;go_wp2_with fail
       refine HDs.o.mono ?_;rintro e y ⟨j,n,q,rfl,f,c,C⟩;obtain⟨⟨z0,z1,z2,y0,y1,y2⟩,d⟩:=B.o.ends iy (i:=1) rfl (b:=w.heap.size+1) (by first | rfl | omega) (st:=200) (mg:=200) rfl f (dB (dG _ _) B.o.sz) c C;clear f c C;go_wp2;generalize (((y.setCell ⟨w.heap.size+1,0,U⟩ (I J 200)).setCell ⟨w.heap.size+1,1,U⟩ (Z j q n)).setCell ⟨w.heap.size+1,2,U⟩ (Z U 0 0))=wf at *;obtain⟨q0,q1,q2,q3⟩:=d.o;refine fI (v:=.agg #[I J 200,Z j q n,Z U 0 0]) (by simp[results,results74,go_sem,q0,q1,q2]) rfl ?_;rw[a.o];exact lu.of q3
     | false =>
     rw[if_neg (fun e=>by have:=eH.1 e;cases this)] at a;clear eH;obtain⟨bt,hbt⟩:∃b,(m.toList==([80,65,84,67,72]:av))=b:=⟨_,rfl⟩;have eT:m=Tu.Vf<->bt=true:=by rw[<-hbt];exact Tu.Yq m Tu.Vf _ rfl
     cases bt with
     | true =>
       rw[if_neg (fun e=>by have:=(eT.2 rfl).symm.trans e;revert this;decide),if_pos (eT.2 rfl)] at a;have HEx:=H9 (BJ (g:=g) (m:=m) (t:=t) (mi:=mi) (ln:=ln) (bo:=bo) (fU:=fU) (nb:=nb) (B.o.pw JC.o) B.o.sh rJ.o (HF.o.stay xA.o) body HBl.o (zP.o.stay xA.o) hnb u T L gQ HUn.o UH hs0);clear eT;generalize Tu.patch s u l body=r9 at *;obtain⟨sr,st,lr⟩:=r9;go_wp2_with fail
       refine(HEx.o).mono ?_;rintro e y hE;cases hE with
       | @gave j n q _ f c G H =>
         have d:=H9 (B.o.Lj f c G H);unfold iG at d ⊢;clear f c G H;go_wp2;exact⟨rfl,by rw[a.o];exact d.o⟩
       | @ret j n q _ f c G H =>
         have GU:=B.o.did G H;replace c:=c.mono (dB (dG _ _) B.o.sz);have C:=eY y.heap.size y;obtain⟨⟨z0,z1,z2,y0,y1,y2⟩,d⟩:=GU.ends iy (i:=1) rfl (b:=w.heap.size+1) (by first | rfl | omega) (st:=st) (mg:=(st:Int)) rfl f (aM _) c C;clear f c C G H GU;go_wp2;generalize (((y.setCell ⟨w.heap.size+1,0,U⟩ (I J (st:Int))).setCell ⟨w.heap.size+1,1,U⟩ (Z j q n)).setCell ⟨w.heap.size+1,2,U⟩ (Z U 0 0))=wf at *;obtain⟨q0,q1,q2,q3⟩:=d.o;refine fI (v:=.agg #[I J (st:Int),Z j q n,Z U 0 0]) (by simp[results,results74,go_sem,q0,q1,q2]) rfl ?_;rw[a.o];exact lu.of q3
     | false =>
     obtain⟨bd,hbd⟩:∃b,(m.toList==([68,69,76,69,84,69]:av))=b:=⟨_,rfl⟩;have eD:m=Tu.Ve<->bd=true:=by rw[<-hbd];exact Tu.Yq m Tu.Ve _ rfl
     cases bd with
     | true =>
       rw[if_pos (eD.2 rfl)] at a;have HRe:=H9 (BI (g:=g) (m:=m) (t:=t) (mi:=mi) (ln:=ln) (fo:=fo) (fZ:=fZ) (nf:=nf) (bo:=bo) (fU:=fU) (nb:=nb) B.o.sh rJ.o u T L gQ);clear eT eD;generalize (Sr.sync (Sr.drop s u.id).1,Tu.said 204 [])=r9 at *;obtain⟨sr,st,lr⟩:=r9;go_wp2_with fail
       refine(HRe.o).mono ?_;rintro e y hE;cases hE with
       | @gave j n q _ f c G H =>
         have d:=H9 (B.o.Lj f c G H);unfold iG at d ⊢;clear f c G H;go_wp2;exact⟨rfl,by rw[a.o];exact d.o⟩
       | @ret j n q _ f c G H =>
         have GU:=B.o.did G H;replace c:=c.mono (dB (dG _ _) B.o.sz);have C:=eY y.heap.size y;obtain⟨⟨z0,z1,z2,y0,y1,y2⟩,d⟩:=GU.ends iy (i:=1) rfl (b:=w.heap.size+1) (by first | rfl | omega) (st:=st) (mg:=(st:Int)) rfl f (aM _) c C;clear f c C G H GU;go_wp2;generalize (((y.setCell ⟨w.heap.size+1,0,U⟩ (I J (st:Int))).setCell ⟨w.heap.size+1,1,U⟩ (Z j q n)).setCell ⟨w.heap.size+1,2,U⟩ (Z U 0 0))=wf at *;obtain⟨q0,q1,q2,q3⟩:=d.o;refine fI (v:=.agg #[I J (st:Int),Z j q n,Z U 0 0]) (by simp[results,results74,go_sem,q0,q1,q2]) rfl ?_;rw[a.o];exact lu.of q3
     | false =>
     rw[if_neg (fun e=>by have:=eD.1 e;cases this),if_neg (fun e=>by have:=eT.1 e;cases this)] at a;have LC:=H9 (jO 405 405 rfl [] U 0 0 w7 (ji.nil w7) rfl (by decide));clear eT eD;go_wp2_with fail
     refine LC.o.mono ?_;rintro e y ⟨j,n,q,rfl,f,c,C⟩;obtain⟨⟨z0,z1,z2,y0,y1,y2⟩,d⟩:=B.o.ends iy (i:=1) rfl (b:=w.heap.size+1) (by first | rfl | omega) (st:=405) (mg:=405) rfl f (dB (dG _ _) B.o.sz) c C;clear f c C;go_wp2;generalize (((y.setCell ⟨w.heap.size+1,0,U⟩ (I J 405)).setCell ⟨w.heap.size+1,1,U⟩ (Z j q n)).setCell ⟨w.heap.size+1,2,U⟩ (Z U 0 0))=wf at *;obtain⟨q0,q1,q2,q3⟩:=d.o;refine fI (v:=.agg #[I J 405,Z j q n,Z U 0 0]) (by simp[results,results74,go_sem,q0,q1,q2]) rfl ?_;rw[a.o];exact lu.of q3
end
theorem Ap (b:Nat)(st:Int)(ao:ak)(n cap:Nat)(a:List PanicEntry)(w:X)(d:w.cell? ⟨b,0,U⟩=M (I J 0)∧w.cell? ⟨b,1,U⟩=M (Z U 0 0)∧w.cell? ⟨b,2,U⟩=M (Z U 0 0)∧w.frozen? ⟨b,0,U⟩=F∧w.frozen? ⟨b,1,U⟩=F∧w.frozen? ⟨b,2,U⟩=F):
 CallsD prog 117 #[Q (M ⟨b,0,U⟩)] (.panicking ({ v:=.iface 194 (.agg #[I J st,Z ao n cap,Z U 0 0]),recovered:=F }::a)) w fun e f w' =>
  e=Y (.tuple #[])∧f=.panicking ({ v:=.iface 194 (.agg #[I J st,Z ao n cap,Z U 0 0]),recovered:=true }::a)∧w'=(((w.setCell ⟨b,0,U⟩ (I J st)).setCell ⟨b,1,U⟩ (Z ao n cap)).setCell ⟨b,2,U⟩ (Z U 0 0)):=by
 obtain⟨k,l,m,o,p,q⟩:=d;refine callsD_of_wpS func117 rfl fun c r g=>?_;apply wpS_seq;apply wpS_region;simp[wpOpsS,go_sem,recoverD,g,ntmps117,Exit.thenS];change Code.wpS _ _ _ { tmps:=#[Q (M ⟨b,0,U⟩),.iface 194 (.agg #[I J st,Z ao n cap,Z U 0 0]),.iface 194 (.agg #[I J st,Z ao n cap,Z U 0 0]),undef,undef,undef,undef,undef],defers:=[] } _ _;refine wpS_of_wp ?_;have i:∀w:X,(Instr.typeAssert (.iface 194 (.agg #[I J st,Z ao n cap,Z U 0 0])) 20 194 F).run prog w=.ok (.agg #[I J st,Z ao n cap,Z U 0 0]) w:=fun _=>by kernel_rfl
 have j:∀w:X,(Instr.field 194 (.agg #[I J st,Z ao n cap,Z U 0 0]) 0).run prog w=.ok (.agg #[I J st,Z ao n cap,Z U 0 0]) w:=fun _=>by kernel_rfl
 go_wp2;simp[bodyPostS,results,results117]
theorem LH (b:Nat)(w:X):
 CallsD prog 117 #[Q (M ⟨b,0,U⟩)] .returning w fun e c w'=>e=Y (.tuple #[])∧c=.returning∧w'=w:=by
 refine callsD_of_wpS func117 rfl fun a f d=>?_;apply wpS_seq;apply wpS_region;simp[wpOpsS,go_sem,recoverD,d,ntmps117,Exit.thenS];change Code.wpS _ _ _ { tmps:=#[Q (M ⟨b,0,U⟩),.nilIface,.nilIface,undef,undef,undef,undef,undef],defers:=[] } _ _;refine wpS_of_wp ?_;go_wp2;cases a;simp_all [bodyPostS,results,results117]
section
variable {g:Nat} {m t:ay} {mi ln:Int} {l:au} {fo:ak} {fZ nf:Nat} {bo:ak} {fU nb:Nat} {w w0:X} {S:Nat->Prop} {s:Sr.Sh}
theorem ag2 (h:gX w S g s):iM gX S w g [K #[I J 0,Z U 0 0,Z U 0 0] 109 (0,0)] s (fun k=>S k∧k<w.heap.size) (w.alloc (K #[I J 0,Z U 0 0,Z U 0 0] 109)):=(iM.start iy h).box iy rfl (fun _ e=>e.2) _
theorem LJ (p:wu w0 w S)(h:gX w S g s)(ok:Sr.Ok s)(hF:pE w l fo fZ nf)(body:av)(hb:body.length=nb)(hB:gN w bo fU body)(x:nb<=100000)(ht:t.size<=100000):
 Calls prog 73 #[.func (.func 74) #[.agg #[Q (M ⟨g,0,U⟩),V m,V t,I J mi,Z fo nf fZ,I J ln,Z bo nb fU]] #[]] w fun e w'=>zo gX S w g (Tu.iQ s m t l body) e w':=by
 have Qi:∀(fn:Fn) (first k:Array Value) (w:X),(Instr.makeFunc fn first k).run prog w=.ok (.func fn first k) w:=fun _ _ _ _=>rfl;have j:=ag2 h;have n:=(eY _ w).alloc (aM _) (K #[I J 0,Z U 0 0,Z U 0 0] 109);have q:=OM (m:=m) (t:=t) (mi:=mi) (ln:=ln) (bo:=bo) (fU:=fU) (nb:=nb) (j.pw p) j.sh ok (hF.stay n) body hb (hB.stay n) x ht;obtain⟨a,hR⟩:∃a,a=Tu.iQ s m t l body:=⟨_,rfl⟩;rw[<-hR] at q ⊢;obtain⟨sr,st,lr⟩:=a;go_enter_defers func73,ntmps73
 go_wp2_with fail
 refine q.mono ?_;rintro e c hE;cases hE with
 | @gave r u v _ y d z B =>
   have C:=j.did z B;replace d:=d.mono (dB (dG _ _) j.sz);obtain⟨hz,D⟩:=C.ends iy (i:=0) rfl (b:=w.heap.size) (by first | rfl | omega) (st:=st) (mg:=(st:Int)) rfl y (aM _) d (eY c.heap.size c);unfold iG;go_wp2;refine leaves_cons (f:=117) (args:=#[Q (M ⟨w.heap.size,0,U⟩)]) (by simp) (by simp[go_sem]) ?_;refine(Ap w.heap.size st r v u [] c hz).mono ?_;rintro e u' G ⟨rfl,rfl,H⟩;rw[H];generalize (((c.setCell ⟨w.heap.size,0,U⟩ (I J (st:Int))).setCell ⟨w.heap.size,1,U⟩ (Z r v u)).setCell ⟨w.heap.size,2,U⟩ (Z U 0 0))=wf at *;obtain⟨L,N,T,W⟩:=D.o;simp[Leaves,settle,results,results73,go_sem,L,N,T];exact W
 | @ret r u v _ y d z B =>
   have C:=j.did z B;replace d:=d.mono (dB (dG _ _) j.sz);obtain⟨⟨z0,z1,z2,y0,y1,y2⟩,D⟩:=C.ends iy (i:=0) rfl (b:=w.heap.size) (by first | rfl | omega) (st:=st) (mg:=(st:Int)) rfl y (aM _) d (eY c.heap.size c);go_wp2;refine leaves_cons (f:=117) (args:=#[Q (M ⟨w.heap.size,0,U⟩)]) (by simp) (by simp[go_sem]) ?_;refine(LH w.heap.size _).mono ?_;rintro e u' G ⟨rfl,rfl,H⟩;rw[H];generalize (((c.setCell ⟨w.heap.size,0,U⟩ (I J (st:Int))).setCell ⟨w.heap.size,1,U⟩ (Z r v u)).setCell ⟨w.heap.size,2,U⟩ (Z U 0 0))=wf at *;obtain⟨L,N,T,W⟩:=D.o;simp[Leaves,settle,results,results73,go_sem,L,N,T];exact W
theorem QL (p:wu w0 w S)(h:gX w S g s)(ok:Sr.Ok s)(D:pE w l fo fZ nf)(body:av)(G:body.length=nb)(H:gN w bo fU body)(r:nb<=100000)(L:t.size<=100000):
 Calls prog 41 #[Q (M ⟨g,0,U⟩),.agg #[V m,V t,I J mi,Z fo nf fZ,I J ln],Z bo nb fU] w fun e w'=>zo gX S w g (Tu.iQ s m t l body) e w':=by
 have Qi:∀(y:Fn) (first d:Array Value) (w:X),(Instr.makeFunc y first d).run prog w=.ok (.func y first d) w:=fun _ _ _ _=>rfl;have a:(w.alloc (K #[V m,V t,I J mi,Z fo nf fZ,I J ln] 82)).heap.size=w.heap.size+1:=fG ..;have f:((w.alloc (K #[V m,V t,I J mi,Z fo nf fZ,I J ln] 82)).alloc (K #[I J 0,Z U 0 0,Z U 0 0] 109)).heap.size=w.heap.size+2:=by rw[fG,a]
 have q:iM gX S w g [K #[V m,V t,I J mi,Z fo nf fZ,I J ln] 82 (0,0),K #[I J 0,Z U 0 0,Z U 0 0] 109 (0,0),K #[Q (M ⟨g,0,U⟩),V m,V t,I J mi,Z fo nf fZ,I J ln,Z bo nb fU] 148 (0,0)] s (fun k=>S k∧k<w.heap.size) (((w.alloc (K #[V m,V t,I J mi,Z fo nf fZ,I J ln] 82)).alloc (K #[I J 0,Z U 0 0,Z U 0 0] 109)).alloc (K #[Q (M ⟨g,0,U⟩),V m,V t,I J mi,Z fo nf fZ,I J ln,Z bo nb fU] 148)) :=
  (((iM.start iy h).box iy rfl (fun k e=>e.2) _).box iy a (fun k e=>by rw[a];have:=e.2;omega) _).box iy f (fun k e=>by rw[f];have:=e.2;omega) _
 have j:Below w.heap.size w (((w.alloc (K #[V m,V t,I J mi,Z fo nf fZ,I J ln] 82)).alloc (K #[I J 0,Z U 0 0,Z U 0 0] 109)).alloc (K #[Q (M ⟨g,0,U⟩),V m,V t,I J mi,Z fo nf fZ,I J ln,Z bo nb fU] 148)):=then_ (then_ ((eY _ w).alloc (aM _) _) ((eY _ _).alloc (aM _) _)) ((eY _ _).alloc (aM _) _);have n:=LJ (m:=m) (t:=t) (mi:=mi) (ln:=ln) (bo:=bo) (fU:=fU) (nb:=nb) (q.pw p) q.sh ok (D.stay j) body G (H.stay j) r L;obtain⟨c,N⟩:∃c,c=Tu.iQ s m t l body:=⟨_,rfl⟩;rw[<-N] at n ⊢;obtain⟨sr,st,lr⟩:=c;go_enter func41,ntmps41;go_wp2_with fail
 refine n.mono ?_;rintro e u ⟨⟨z,B,C,rfl,T,x⟩,W,qB⟩;have GU:=q.did W qB;replace x:=x.mono (dB (dG _ _) q.sz);obtain⟨⟨z0,z1,z2,y0,y1,y2⟩,HE⟩:=GU.ends iy (i:=1) rfl (b:=w.heap.size+1) (by first | rfl | omega) (st:=st) (mg:=(st:Int)) rfl T (aM _) x (eY u.heap.size u);go_wp2;generalize (((u.setCell ⟨w.heap.size+1,0,U⟩ (I J (st:Int))).setCell ⟨w.heap.size+1,1,U⟩ (Z z C B)).setCell ⟨w.heap.size+1,2,U⟩ (Z U 0 0))=wf at *;obtain⟨q0,q1,q2,q3⟩:=HE.o;refine fI (v:=.agg #[I J (st:Int),Z z C B,Z U 0 0]) (by simp[results,results41,go_sem,q0,q1,q2]) rfl ?_;exact q3
end
end Go.Proofs.YthhklgjjnaeaoaaGreatDoor