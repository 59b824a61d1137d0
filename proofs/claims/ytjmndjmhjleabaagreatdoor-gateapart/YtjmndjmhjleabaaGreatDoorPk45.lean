/- Small texts, one behind the other: FbPow, TsB, TsC, TsD, TsE, RpF, TsG, TsF, TsI, TsK, TsJ, TsH, TsL, TsM. -/
import Derived.Lib.AppendIntMem
import Derived.Test.YtjmndjmhjleabaaGreatDoorPk43
open Go.Value renaming int->I,string->V,slice->Z,pointer->Q
open Go.IntKind renaming i64->J
open Go.Obj renaming cells->K
open Go.Ending renaming returned->Y
open Option renaming none->U,some->M
open Bool renaming false->F
open Or renaming inl->A,inr->R
open Go renaming World->X
set_option maxHeartbeats 8000000
set_option maxRecDepth 100000
open Go.Proofs.Tryz
namespace Go.Proofs.YtjmndjmhjleabaaGreatDoor
open Go.RowKit
def ny (w:X):Prop:=Lib.TabIs prog w "internal/strconv.uint64pow10" .u64 Lib.pow10Tab
theorem ny.stay {w w':X}(h:ny w)(c:Below w.heap.size w w'):ny w':=by
 unfold ny Lib.TabIs World.var? at h ⊢;cases a:prog.globalNamed "internal/strconv.uint64pow10" with
 | none=>rw[a] at h;cases h
 | some g =>
   rw[a] at h;simp only[Option.bind_some] at h ⊢;cases b:w.heap[g]? with
   | none=>rw[b] at h;cases h
   | some o=>rw[c.block g (aK.1 b).1];exact h
theorem Er:∀(f n:Nat),n<10 ^ (f+1)->Lib.decDigits n=Ch.jG f n
 | 0, n, h => by
   rw[Lib.decDigits,dif_pos (by simpa using h)];rfl
 | f + 1, n, h => by
   rw[Lib.decDigits,Ch.jG];by_cases a:n<10
   . rw[dif_pos a,if_pos a]
   . rw[dif_neg a,if_neg a,Er f (n / 10) (by rw[Nat.pow_succ] at h;omega)]
theorem tZ (n:Nat)(a:n<1000000000)(W:X)(b:ny W):Calls prog 122 #[I J (n:Int)] W fun e w'=>e=Y (V ⟨(Ch.jG 8 n).toArray⟩)∧Below W.heap.size W w':=by
 have h:=Any.strconv_Itoa Tryz.lays171 (n:Int) (by omega) (by omega) W b;rw[Lib.itoa_nonneg,Er 8 n (by simpa using a)] at h;refine h.mono ?_;rintro e w' ⟨c,k,d,rfl⟩;exact⟨c,Lib.below_grow _ W (aL _) k d⟩
theorem Ii (b v:av)(x:Int)(w:X)(l:∀W,Below w.heap.size w W->Calls prog 122 #[I J x] W fun e w'=>e=Y (V v)∧Below W.heap.size W w'):
 Calls prog 116 #[V b,I J x] w fun e w'=>e=Y (.agg #[V b,V v])∧Below w.heap.size w w':=by
 have k:=(fI _ w).alloc (aL _) (K #[V ⟨#[]⟩,V ⟨#[]⟩] 111);have m:=H9 (l _ k);have n:=H9 k;clear l k;go_enter func116,ntmps116;go_wp2_with fail
 refine m.o.mono ?_;rintro e r ⟨rfl,f⟩;have g:=H9 f;clear f;go_wp2_with fail
 refine(kE b v r).mono ?_;rintro e a ⟨rfl,i⟩;have c:=then_ g.o i;have d:a.heap[w.heap.size]? = M (K #[V ⟨#[]⟩,V ⟨#[]⟩] 111 (0,0)):=(c.block w.heap.size (by simp)).trans (fH w _);have y:a.cell? ⟨w.heap.size,0,U⟩=M (V ⟨#[]⟩):=fJ a _ 0 _ _ _ d;have z:a.cell? ⟨w.heap.size,1,U⟩=M (V ⟨#[]⟩):=fJ a _ 1 _ _ _ d;have B:a.frozen? ⟨w.heap.size,0,U⟩=F:=fK a _ 0 _ _ d;have C:a.frozen? ⟨w.heap.size,1,U⟩=F:=fK a _ 1 _ _ d;have s:=H9 (((then_ n.o c).setCell (p:=⟨w.heap.size,0,U⟩) (aL _) (V b)).setCell (p:=⟨w.heap.size,1,U⟩) (aL _) (V v));have q:=H9 (fM _ _ 1 _ _ (V v) (fM _ _ 0 _ _ (V b) d));clear i c d g n m;go_wp2;generalize ((a.setCell ⟨w.heap.size,0,U⟩ (V b)).setCell ⟨w.heap.size,1,U⟩ (V v))=j at *;have t:j.cell? ⟨w.heap.size,0,U⟩=M (V b):=fJ j _ 0 _ _ _ q.o;have u:j.cell? ⟨w.heap.size,1,U⟩=M (V v):=fJ j _ 1 _ _ _ q.o;exact gq (v:=.agg #[V b,V v]) (by simp[results,results116,go_sem,t,u]) rfl ⟨rfl,s.o⟩
theorem oN (a:av)(n:Nat)(x:Int)(b:(n:Int)=x)(c:n<1000000000)(w:X)(d:ny w):Calls prog 116 #[V a,I J x] w fun e w'=>e=Y (.agg #[V a,V (Tu.dec n)])∧Below w.heap.size w w':=by
 subst b;exact Ii a (Tu.dec n) n w (fun W f=>tZ n c W (d.stay f))
theorem BP (c:Nat)(w:X):
 Calls prog 162 #[I J (c:Int)] w fun e w'=>e=Y (I J (Tu.status c:Nat))∧w'=w:=by
 by_cases a:c=10
 . subst a;go_enter func162,ntmps162;go_wp2;go_ret;exact⟨rfl,rfl⟩
 by_cases b:c=17
 . subst b;go_enter func162,ntmps162;go_wp2;go_ret;exact⟨rfl,rfl⟩
 by_cases d:c=19
 . subst d;go_enter func162,ntmps162;go_wp2;go_ret;exact⟨rfl,rfl⟩
 by_cases g:c=4
 . subst g;go_enter func162,ntmps162;go_wp2;go_ret;exact⟨rfl,rfl⟩
 by_cases i:c=8
 . subst i;go_enter func162,ntmps162;go_wp2;go_ret;exact⟨rfl,rfl⟩
 by_cases f:c=16
 . subst f;go_enter func162,ntmps162;go_wp2;go_ret;exact⟨rfl,rfl⟩
 have j:Hid (Tu.status c=400):=by
  unfold Hid Tu.status;rw[if_neg a,if_neg (by omega),if_neg g,if_neg (by omega)]
 have k:((c:Int)==10)=F:=by rw[aR];omega
 have l:((c:Int)==17)=F:=by rw[aR];omega
 have m:((c:Int)==19)=F:=by rw[aR];omega
 have p:((c:Int)==4)=F:=by rw[aR];omega
 have q:((c:Int)==8)=F:=by rw[aR];omega
 have n:((c:Int)==16)=F:=by rw[aR];omega
 clear a b d g i f;go_enter func162,ntmps162;go_wp2;go_ret;exact⟨by rw[j.o];rfl,rfl⟩
theorem qI (w:X):Calls prog 120 #[I J 0] w fun e w'=>e=Y (.tuple #[])∧w'=w:=by
 have b:=H9 (BP 0 w);go_enter func120,ntmps120;go_wp2_with fail
 refine b.o.mono ?_;rintro e c ⟨rfl,a⟩;rw[a];clear a;go_wp2_with fail
 refine(iQ _ U 0 0 w).mono ?_;rintro e d ⟨rfl,a⟩;rw[a];clear a;go_wp2;go_end0
 exact⟨rfl,rfl⟩
theorem sO (c:Nat)(g:c≠0)(w:X):Calls prog 120 #[I J (c:Int)] w fun e w'=>qH w (Tu.said (Tu.status c) []) e w':=by
 have a:=H9 (BP c w);have l:((c:Int)==0)=F:=by rw[aR];omega
 have i:=H9 (iV (Tu.status c) (Tu.status c:Nat) rfl w);clear g;go_enter func120,ntmps120;go_wp2_with fail
 refine a.o.mono ?_;rintro e m ⟨rfl,b⟩;rw[b];clear b a;go_wp2_with fail
 refine i.o.mono ?_;rintro e p d;have j:=H9 d;obtain⟨q,k,n,f,_,_,_⟩:=d;unfold iR at f;subst f;go_wp2;exact⟨rfl,j.o⟩
structure pW (w:X)(l:ak)(fo:aj)(gL nf:Nat):Prop where
 is:jm w fo gL nf (gT l)
 len:l.length=nf
 few:nf<=1000
 small:∀p∈l,p.1.size<=2000∧p.2.size<=2000
theorem pW.stay {w w':X}{l:ak}{fo:aj}{gL nf:Nat}(h:pW w l fo gL nf)(a:Below w.heap.size w w'):pW w' l fo gL nf:=⟨h.is.stay a,h.len,h.few,h.small⟩
section
variable {g:Nat} {m t:av} {mi ln:Int} {l:ak} {fo:aj} {gL nf:Nat} {bo:aj} {gJ nb:Nat} {w:X}
theorem oO (a:av)(u:a.size<=2000)(h:pW w l fo gL nf){v:au}{c:Nat}(k:Tu.one (Tu.vals a l)=(v,c))(x:c≠9):
 Calls prog 85 #[.agg #[Q (M ⟨g,0,U⟩),V m,V t,I J mi,Z fo nf gL,I J ln,Z bo nb gJ],V a] w fun e w'=>e=Y (.tuple #[V ⟨v.toArray⟩,.bool (decide (c=0))])∧Below w.heap.size w w':=by
 have i:=(fI _ w).alloc (aL _) (K #[Q (M ⟨g,0,U⟩),V m,V t,I J mi,Z fo nf gL,I J ln,Z bo nb gJ] 123);have f:=H9 (ug l a fo gL nf _ (h.stay i).is h.len (by have:=h.few;omega) h.small u);rw[Tu.Wo,Tu.QA,k] at f;unfold rP at f;have z:((c:Int) != 9)=true:=by rw[cO];omega
 have B:(w.alloc (K #[Q (M ⟨g,0,U⟩),V m,V t,I J mi,Z fo nf gL,I J ln,Z bo nb gJ] 123)).cell? ⟨w.heap.size,4,U⟩=M (Z fo nf gL):=World.cell?_alloc_mark w _ _ _ 4;have n:=H9 i;clear h i k;generalize (⟨v.toArray⟩:av)=C at *;have p:Hid (∃b:Bool,((c:Int)==0)=b∧decide (c=0)=b):=by
  by_cases q:c=0
  . subst q;exact⟨true,rfl,rfl⟩
  . exact⟨F,by rw[aR];omega,aI q⟩
 obtain⟨b,D,r⟩:=p.o;rw[r];clear r p x;go_enter func85,ntmps85;go_wp2_with fail
 refine f.o.mono ?_;rintro e y ⟨rfl,d⟩;have j:=H9 (then_ n.o d);clear d f n;go_wp2_with fail
 refine(iQ 400 U 0 0 y).mono ?_;rintro e G ⟨rfl,s⟩;rw[s];clear s;go_wp2;go_ret2;exact⟨rfl,j.o⟩
theorem yQ (a:av)(b:a.size<=2000)(h:pW w l fo gL nf){v:au}(c:Tu.one (Tu.vals a l)=(v,0)):
 Calls prog 85 #[.agg #[Q (M ⟨g,0,U⟩),V m,V t,I J mi,Z fo nf gL,I J ln,Z bo nb gJ],V a] w fun e w'=>e=Y (.tuple #[V ⟨v.toArray⟩,.bool true])∧Below w.heap.size w w':=oO a b h c (by decide)
theorem Ij (a:av)(b:a.size<=2000)(h:pW w l fo gL nf){v:au}(c:Tu.one (Tu.vals a l)=(v,10)):
 Calls prog 85 #[.agg #[Q (M ⟨g,0,U⟩),V m,V t,I J mi,Z fo nf gL,I J ln,Z bo nb gJ],V a] w fun e w'=>e=Y (.tuple #[V ⟨v.toArray⟩,.bool F])∧Below w.heap.size w w':=oO a b h c (by decide)
theorem rU (a:av)(q:a.size<=2000)(h:pW w l fo gL nf){v:au}(i:Tu.one (Tu.vals a l)=(v,9)):
 Calls prog 85 #[.agg #[Q (M ⟨g,0,U⟩),V m,V t,I J mi,Z fo nf gL,I J ln,Z bo nb gJ],V a] w fun e w'=>qH w (Tu.said 400 []) e w':=by
 have d:=(fI _ w).alloc (aL _) (K #[Q (M ⟨g,0,U⟩),V m,V t,I J mi,Z fo nf gL,I J ln,Z bo nb gJ] 123);have c:=H9 (ug l a fo gL nf _ (h.stay d).is h.len (by have:=h.few;omega) h.small q);rw[Tu.Wo,Tu.QA,i] at c;unfold rP at c;have x:(w.alloc (K #[Q (M ⟨g,0,U⟩),V m,V t,I J mi,Z fo nf gL,I J ln,Z bo nb gJ] 123)).cell? ⟨w.heap.size,4,U⟩=M (Z fo nf gL):=World.cell?_alloc_mark w _ _ _ 4;have j:=H9 d;clear h d i;generalize (⟨v.toArray⟩:av)=y at *;go_enter func85,ntmps85;go_wp2_with fail
 refine c.o.mono ?_;rintro e r ⟨rfl,b⟩;have f:=H9 (then_ j.o b);clear b c j;go_wp2_with fail
 refine(iV 400 400 rfl r).mono ?_;rintro e z k;have s:=H9 (k.from_ f.o);obtain⟨B,u,n,p,_,_,_⟩:=k;unfold iR at p;subst p;go_wp2;exact⟨rfl,s.o⟩
end
theorem Tu.Lg (a:List av):(Tu.one a).2=0∨(Tu.one a).2=9∨(Tu.one a).2=10:=by
 unfold Tu.one;split
 . exact R (R rfl)
 . exact A rfl
 . exact R (A rfl)
theorem Tu.kZ {a b:av}(h:Ch.lower a.data.toList=Ch.lower b.data.toList)(l:ak):Tu.vals a l=Tu.vals b l:=by unfold Tu.vals;rw[h]
theorem Tu.uh (l:ak):Tu.vals Tu.AA l=Tu.vals Tu.YN l:=Tu.kZ (by decide +kernel) l
theorem Tu.wJ (l:ak):Tu.vals Tu.Dv l=Tu.vals Tu.Du l:=Tu.kZ (by decide +kernel) l
theorem Tu.Wt (l:ak):Tu.vals Tu.Dw l=Tu.vals Tu.Vm l:=Tu.kZ (by decide +kernel) l
theorem Tu.Lh (l:ak):Tu.vals Tu.MV l=Tu.vals Tu.nUM l:=Tu.kZ (by decide +kernel) l
theorem Tu.Wu (l:ak):Tu.vals Tu.vD l=Tu.vals Tu.nUO l:=Tu.kZ (by decide +kernel) l
def Tu.fCT:av:=⟨#[67,111,110,116,101,110,116,45,84,121,112,101]⟩
theorem Tu.Es (l:ak):Tu.vals Tu.fCT l=Tu.vals Tu.MU l:=Tu.kZ (by decide +kernel) l
section
variable {g:Nat} {m t:av} {mi ln:Int} {l:ak} {fo:aj} {gL nf:Nat} {bo:aj} {gJ nb:Nat} {w:X}
theorem pW.val (h:pW w l fo gL nf)(a:av):(Tu.one (Tu.vals a l)).1.length<=2000:=Tu.Wp l a 2000 (fun p b=>(h.small p b).2)
theorem uS {w W:X}(a:Below (w.alloc (K #[Q (M ⟨g,0,U⟩),V m,V t,I J mi,Z fo nf gL,I J ln,Z bo nb gJ] 123)).heap.size (w.alloc (K #[Q (M ⟨g,0,U⟩),V m,V t,I J mi,Z fo nf gL,I J ln,Z bo nb gJ] 123)) W):W.cell? ⟨w.heap.size,0,U⟩=M (Q (M ⟨g,0,U⟩))∧W.cell? ⟨w.heap.size,1,U⟩=M (V m)∧W.cell? ⟨w.heap.size,2,U⟩=M (V t)∧W.cell? ⟨w.heap.size,3,U⟩=M (I J mi)∧W.cell? ⟨w.heap.size,4,U⟩=M (Z fo nf gL)∧W.cell? ⟨w.heap.size,5,U⟩=M (I J ln)∧W.cell? ⟨w.heap.size,6,U⟩=M (Z bo nb gJ):=by
 have r:W.heap[w.heap.size]? = M (K #[Q (M ⟨g,0,U⟩),V m,V t,I J mi,Z fo nf gL,I J ln,Z bo nb gJ] 123 (0,0)):=(a.block w.heap.size (by simp)).trans (fH w _);exact⟨fJ W _ 0 _ _ _ r,fJ W _ 1 _ _ _ r,fJ W _ 2 _ _ _ r,fJ W _ 3 _ _ _ r,fJ W _ 4 _ _ _ r,fJ W _ 5 _ _ _ r,fJ W _ 6 _ _ _ r⟩
theorem zU (a:av)(p:a.size<=2000)(h:pW w l fo gL nf)(i:(Tu.one (Tu.vals a l)).2=10):
 Calls prog 127 #[.agg #[Q (M ⟨g,0,U⟩),V m,V t,I J mi,Z fo nf gL,I J ln,Z bo nb gJ],V a] w fun e w'=>e=Y (.tuple #[I J 0,.bool F])∧Below w.heap.size w w':=by
 have d:=(fI _ w).alloc (aL _) (K #[Q (M ⟨g,0,U⟩),V m,V t,I J mi,Z fo nf gL,I J ln,Z bo nb gJ] 123);generalize j:Tu.one (Tu.vals a l)=r at *;obtain⟨v,c⟩:=r;simp only at i;subst i;have k:=H9 (Ij (g:=g) (m:=m) (t:=t) (mi:=mi) (ln:=ln) (bo:=bo) (gJ:=gJ) (nb:=nb) a p (h.stay d) j);have n:=H9 d;obtain⟨q,s,u,x,y,z,B⟩:=uS (g:=g) (m:=m) (t:=t) (mi:=mi) (ln:=ln) (fo:=fo) (gL:=gL) (nf:=nf) (bo:=bo) (gJ:=gJ) (nb:=nb) (w:=w) (fI _ _);clear h d j;generalize (⟨v.toArray⟩:av)=C at *;go_enter func127,ntmps127;go_wp2_with fail
 refine k.o.mono ?_;rintro e D ⟨rfl,b⟩;have f:=H9 (then_ n.o b);clear b k n;go_wp2;go_ret2;exact⟨rfl,f.o⟩
theorem BQ (a:av)(C:a.size<=2000)(h:pW w l fo gL nf)(k:(Tu.one (Tu.vals a l)).2≠10){x:Int}(n:Tu.jA (Tu.one (Tu.vals a l))=(x,true)):
 Calls prog 127 #[.agg #[Q (M ⟨g,0,U⟩),V m,V t,I J mi,Z fo nf gL,I J ln,Z bo nb gJ],V a] w fun e w'=>e=Y (.tuple #[I J x,.bool true])∧Below w.heap.size w w':=by
 have p:=(fI _ w).alloc (aL _) (K #[Q (M ⟨g,0,U⟩),V m,V t,I J mi,Z fo nf gL,I J ln,Z bo nb gJ] 123);have s:=h.val a;generalize u:Tu.one (Tu.vals a l)=r at *;obtain⟨v,c⟩:=r;simp only at k s;unfold Tu.jA at n;rw[if_neg k] at n;injection n with d b;rw[cZ,bQ] at b;obtain⟨b,f⟩:=b;simp only at d b f;subst f;clear k;have y:=H9 (yQ (g:=g) (m:=m) (t:=t) (mi:=mi) (ln:=ln) (bo:=bo) (gJ:=gJ) (nb:=nb) a C (h.stay p) u);have D:Hid (∀W,Calls prog 124 #[V ⟨v.toArray⟩] W fun e w'=>e=Y (.tuple #[I J x,.bool true])∧w'=W):=fun W=>by
  have:=ow ⟨v.toArray⟩ W (by show v.toArray.size<=_;rw[bL];unfold maxLen;omega);rw[show(⟨v.toArray⟩:av).data.toList=v from by simp,d,b] at this;exact this
 have z:=H9 p;obtain⟨H,L,N,O,P,S,T⟩:=uS (g:=g) (m:=m) (t:=t) (mi:=mi) (ln:=ln) (fo:=fo) (gL:=gL) (nf:=nf) (bo:=bo) (gJ:=gJ) (nb:=nb) (w:=w) (fI _ _);clear h p u d b s;generalize (⟨v.toArray⟩:av)=vb at *;go_enter func127,ntmps127;go_wp2_with fail
 refine y.o.mono ?_;rintro e B ⟨rfl,i⟩;have q:=H9 (then_ z.o i);clear i y z;go_wp2_with fail
 refine(D.o B).mono ?_;rintro e G ⟨rfl,j⟩;rw[j];clear j;go_wp2_with fail
 refine(iQ 400 U 0 0 B).mono ?_;rintro e G ⟨rfl,j⟩;rw[j];clear j;go_wp2;go_ret2;exact⟨rfl,q.o⟩
theorem Et (a:av)(G:a.size<=2000)(h:pW w l fo gL nf)(b:(Tu.jA (Tu.one (Tu.vals a l))).2=F):
 Calls prog 127 #[.agg #[Q (M ⟨g,0,U⟩),V m,V t,I J mi,Z fo nf gL,I J ln,Z bo nb gJ],V a] w fun e w'=>qH w (Tu.said 400 []) e w':=by
 have f:=(fI _ w).alloc (aL _) (K #[Q (M ⟨g,0,U⟩),V m,V t,I J mi,Z fo nf gL,I J ln,Z bo nb gJ] 123);have u:=h.val a;have d:=Tu.Lg (Tu.vals a l);generalize q:Tu.one (Tu.vals a l)=r at *;obtain⟨v,c⟩:=r;have x:=H9 f;obtain⟨T,x1,x2,x3,x4,x5,x6⟩:=uS (g:=g) (m:=m) (t:=t) (mi:=mi) (ln:=ln) (fo:=fo) (gL:=gL) (nf:=nf) (bo:=bo) (gJ:=gJ) (nb:=nb) (w:=w) (fI _ _);simp only at d u;unfold Tu.jA at b;by_cases H:c=9
 . subst H;have s:=H9 (rU (g:=g) (m:=m) (t:=t) (mi:=mi) (ln:=ln) (bo:=bo) (gJ:=gJ) (nb:=nb) a G (h.stay f) q);clear h f q u b d;go_enter func127,ntmps127;go_wp2_with fail
   refine s.o.mono ?_;rintro e L i;have z:=H9 (i.from_ x.o);obtain⟨P,B,n,j,_,_,_⟩:=i;unfold iR at j;subst j;go_wp2;exact⟨rfl,z.o⟩
 . have C:c≠10:=fun e=>by subst e;rw[if_pos rfl] at b;cases b
   obtain rfl:c=0:=by omega
   rw[if_neg (by simp)] at b;have k:(Ch.number 10 9 v).2=F:=by
    cases e:(Ch.number 10 9 v).2 with
    | false=>rfl
    | true=>simp[e] at b
   have s:=H9 (yQ (g:=g) (m:=m) (t:=t) (mi:=mi) (ln:=ln) (bo:=bo) (gJ:=gJ) (nb:=nb) a G (h.stay f) q);have S:Hid (∀W,Calls prog 124 #[V ⟨v.toArray⟩] W fun e w'=>e=Y (.tuple #[I J (Ch.number 10 9 v).1,.bool F])∧w'=W):=fun W=>by
    have:=ow ⟨v.toArray⟩ W (by show v.toArray.size<=_;rw[bL];unfold maxLen;omega);rw[show(⟨v.toArray⟩:av).data.toList=v from by simp,k] at this;exact this
   clear h f q u b d k H C;generalize (Ch.number 10 9 v).1=y at *;generalize (⟨v.toArray⟩:av)=vb at *;go_enter func127,ntmps127;go_wp2_with fail
   refine s.o.mono ?_;rintro e N ⟨rfl,p⟩;have D:=H9 (then_ x.o p);clear p s x;go_wp2_with fail
   refine(S.o N).mono ?_;rintro e L ⟨rfl,O⟩;rw[O];clear O;go_wp2_with fail
   refine(iV 400 400 rfl N).mono ?_;rintro e L i;have z:=H9 (i.from_ D.o);obtain⟨P,B,n,j,_,_,_⟩:=i;unfold iR at j;subst j;go_wp2;exact⟨rfl,z.o⟩
end
section
variable {g:Nat} {m t:av} {mi ln:Int} {l:ak} {fo:aj} {gL nf:Nat} {bo:aj} {gJ nb:Nat} {w:X}
theorem qH.ends {w a b:X}{r:Tu.zi}{e:Ending}(d:Below w.heap.size w a)(c:qH a r e b):Hid (qH w r e b)∧∃(ao:aj) (cap n:Nat),e=iR (r.1:Int) ao n cap:=by
 refine⟨c.from_ d,?_⟩;obtain⟨ao,cap,n,f,_⟩:=c;exact⟨ao,cap,n,f⟩
theorem Tu.Im {r:au×Nat}(c:r.2≠10){x:Int}(a:Tu.jA r=(x,true)):0<=x:=by
 unfold Tu.jA at a;rw[if_neg c] at a;injection a with d b;rw[cZ] at b;rw[<-d];exact(Ch.qJ b.1).1
theorem Tu.EA {r:au×Nat}(a:r.2=10):Tu.jA r=(-1,true):=by unfold Tu.jA;rw[if_pos a]
def Tu.xO (l:ak):Prop:=(Tu.one (Tu.vals Tu.Vm l)).2=9∨((Tu.one (Tu.vals Tu.Vm l)).2=0∧(Tu.one (Tu.vals Tu.Vm l)).1≠Tu.yK.data.toList)∨(0<=(Tu.jA (Tu.one (Tu.vals Tu.Du l))).1<->(Tu.one (Tu.vals Tu.Vm l)).2=0)
theorem Sv (h:pW w l fo gL nf)(b:(Tu.jA (Tu.one (Tu.vals Tu.Du l))).2=F):
 Calls prog 118 #[.agg #[Q (M ⟨g,0,U⟩),V m,V t,I J mi,Z fo nf gL,I J ln,Z bo nb gJ]] w fun e w'=>qH w (Tu.said 400 []) e w':=by
 have a:=(fI _ w).alloc (aL _) (K #[Q (M ⟨g,0,U⟩),V m,V t,I J mi,Z fo nf gL,I J ln,Z bo nb gJ] 123);have f:=H9 a;obtain⟨p,q,r,s,u,v,x⟩:=uS (g:=g) (m:=m) (t:=t) (mi:=mi) (ln:=ln) (fo:=fo) (gL:=gL) (nf:=nf) (bo:=bo) (gJ:=gJ) (nb:=nb) (w:=w) (fI _ _);have c:=H9 (Et (g:=g) (m:=m) (t:=t) (mi:=mi) (ln:=ln) (bo:=bo) (gJ:=gJ) (nb:=nb) Tu.Dv (by decide) (h.stay a) (by rw[Tu.wJ];exact b));unfold Tu.Dv at c;clear h a b;go_enter func118,ntmps118;go_wp2_with fail
 refine c.o.mono ?_;rintro e y i;obtain⟨j,z,k,n,d⟩:=i.ends f.o;unfold iR at d;subst d;go_wp2;exact⟨rfl,j.o⟩
theorem Sw (h:pW w l fo gL nf)(hx:(Tu.jA (Tu.one (Tu.vals Tu.Du l))).2=true):
 (Tu.xO l->Calls prog 118 #[.agg #[Q (M ⟨g,0,U⟩),V m,V t,I J mi,Z fo nf gL,I J ln,Z bo nb gJ]] w fun e w'=>qH w (Tu.said 400 []) e w') ∧
 (¬Tu.xO l->Calls prog 118 #[.agg #[Q (M ⟨g,0,U⟩),V m,V t,I J mi,Z fo nf gL,I J ln,Z bo nb gJ]] w fun e w'=>e=Y (I J (Tu.jA (Tu.one (Tu.vals Tu.Du l))).1)∧Below w.heap.size w w'):=by
 have jo:=(fI _ w).alloc (aL _) (K #[Q (M ⟨g,0,U⟩),V m,V t,I J mi,Z fo nf gL,I J ln,Z bo nb gJ] 123);have oG:=H9 jo;have HC:Hid (∀W,Below (w.alloc (K #[Q (M ⟨g,0,U⟩),V m,V t,I J mi,Z fo nf gL,I J ln,Z bo nb gJ] 123)).heap.size (w.alloc (K #[Q (M ⟨g,0,U⟩),V m,V t,I J mi,Z fo nf gL,I J ln,Z bo nb gJ] 123)) W->W.cell? ⟨w.heap.size,0,U⟩=M (Q (M ⟨g,0,U⟩))∧W.cell? ⟨w.heap.size,1,U⟩=M (V m)∧W.cell? ⟨w.heap.size,2,U⟩=M (V t)∧W.cell? ⟨w.heap.size,3,U⟩=M (I J mi)∧W.cell? ⟨w.heap.size,4,U⟩=M (Z fo nf gL)∧W.cell? ⟨w.heap.size,5,U⟩=M (I J ln)∧W.cell? ⟨w.heap.size,6,U⟩=M (Z bo nb gJ)):=fun W O=>uS O;obtain⟨p,q,s,u,x,B,C⟩:=HC.o _ (fI _ _);have key:∃(y:Int) (f:Bool),Hid ((Tu.jA (Tu.one (Tu.vals Tu.Du l))).1=(if f then y else -1)∧(f=true->0<=y))∧∀W,Below w.heap.size w W->Calls prog 127 #[.agg #[Q (M ⟨g,0,U⟩),V m,V t,I J mi,Z fo nf gL,I J ln,Z bo nb gJ],V Tu.Dv] W fun e w'=>e=Y (.tuple #[I J y,.bool f])∧Below W.heap.size W w':=by
  by_cases hc:(Tu.one (Tu.vals Tu.Du l)).2=10
  . exact⟨0,F,⟨by rw[Tu.EA hc];rfl,fun e=>by cases e⟩,fun W O=>zU Tu.Dv (by decide) (h.stay O) (by rw[Tu.wJ];exact hc)⟩
  . generalize hy:Tu.jA (Tu.one (Tu.vals Tu.Du l))=r at *;obtain⟨y,b⟩:=r;simp only at hx;subst hx;exact⟨y,true,⟨rfl,fun _=>Tu.Im hc hy⟩,fun W O=>BQ Tu.Dv (by decide) (h.stay O) (by rw[Tu.wJ];exact hc) (by rw[Tu.wJ];exact hy)⟩
 obtain⟨y,f,HY,Lv⟩:=key;have P:=H9 (Lv _ jo);unfold Tu.Dv at P;have hco:=Tu.Lg (Tu.vals Tu.Vm l);unfold Tu.xO;generalize hv:Tu.one (Tu.vals Tu.Vm l)=r at *;obtain⟨v,c⟩:=r;have H:Tu.one (Tu.vals Tu.Dw l)=(v,c):=by rw[Tu.Wt];exact hv
 simp only at hco;have HF:=H9 h;clear h jo hv Lv hx;generalize (Tu.jA (Tu.one (Tu.vals Tu.Du l))).1=z at *;rcases hco with rfl | rfl | rfl
 . have D:Hid (∀W,Below w.heap.size w W->Calls prog 85 #[.agg #[Q (M ⟨g,0,U⟩),V m,V t,I J mi,Z fo nf gL,I J ln,Z bo nb gJ],V Tu.Dw] W fun e w'=>e=Y (.tuple #[V ⟨v.toArray⟩,.bool true])∧Below W.heap.size W w'):=fun W O=>yQ Tu.Dw (by decide) (HF.o.stay O) H;unfold Tu.Dw at D;obtain⟨b1,hb1⟩:∃b,((⟨v.toArray⟩:av).toList==([49]:au))=b:=⟨_,rfl⟩;have e1:v=Tu.yK.data.toList<->b1=true:=by rw[<-hb1];exact Tu.eqV v _
   have H1e:=H9 e1;clear e1 H;generalize (⟨v.toArray⟩:av)=vb at *;refine⟨fun G=>?_,fun L=>?_⟩
   . have EB:=H9 G;clear G;go_enter func118,ntmps118;go_wp2_with fail
     refine P.o.mono ?_;rintro e w1 ⟨rfl,a⟩;have d:=H9 (then_ oG.o a);clear p q s u x B C;obtain⟨p,q,s,u,x,B,C⟩:=HC.o _ a;clear a P;go_wp2_with fail
     refine(D.o w1 d.o).mono ?_;rintro e N ⟨rfl,i⟩;have j:=H9 (then_ d.o i);clear i D p q s u x B C;cases b1 with
     | false =>
       go_wp2_with fail
       refine(iV 400 400 rfl N).mono ?_;rintro e w9 S;obtain⟨HG,ao,cap,n,T⟩:=S.ends j.o;unfold iR at T;subst T;clear S;go_wp2;exact⟨rfl,HG.o⟩
     | true =>
       go_wp2_with fail
       refine(iQ 400 U 0 0 N).mono ?_;rintro e w3 ⟨rfl,k⟩;rw[k];clear k;cases f with
       | false =>
         exfalso;have h1:=EB.o;have h2:=HY.o.1;simp only[dH,if_false] at h2;rcases h1 with h1 | h1 | h1
         . cases h1
         . exact h1.2 (H1e.o.2 (by first | exact rfl | trivial))
         . have:=h1.2 (by first | exact rfl | trivial);omega
       | true =>
         go_wp2_with fail
         refine(iV 400 400 rfl N).mono ?_;rintro e w9 S;obtain⟨HG,ao,cap,n,T⟩:=S.ends j.o;unfold iR at T;subst T;clear S;go_wp2;exact⟨rfl,HG.o⟩
   . have qx:=H9 L;clear L;have hb:b1=true:=by
      cases b1 with
      | true=>rfl
      | false=>exact absurd (R (A ⟨rfl,fun e=>by have:=H1e.o.1 e;cases this⟩)) qx.o
     subst hb;have ht:f=F:=by
      cases f with
      | false=>rfl
      | true =>
        refine absurd (R (R ⟨fun _=>rfl,fun _=>?_⟩)) qx.o;have h2:=HY.o.1;have h3:=HY.o.2 rfl;rw[h2];exact h3
     subst ht;have hz:z=-1:=HY.o.1;subst hz;go_enter func118,ntmps118;go_wp2_with fail
     refine P.o.mono ?_;rintro e w1 ⟨rfl,a⟩;have d:=H9 (then_ oG.o a);clear p q s u x B C;obtain⟨p,q,s,u,x,B,C⟩:=HC.o _ a;clear a P;go_wp2_with fail
     refine(D.o w1 d.o).mono ?_;rintro e N ⟨rfl,i⟩;have j:=H9 (then_ d.o i);clear i D p q s u x B C;go_wp2_with fail
     refine(iQ 400 U 0 0 N).mono ?_;rintro e w3 ⟨rfl,k⟩;rw[k];clear k;go_wp2_with fail
     refine(iQ 400 U 0 0 N).mono ?_;rintro e w3 ⟨rfl,k⟩;rw[k];clear k;go_wp2;go_ret;exact⟨rfl,j.o⟩
 . refine⟨fun _=>?_,fun L=>absurd (A rfl) L⟩;have D:Hid (∀W,Below w.heap.size w W->Calls prog 85 #[.agg #[Q (M ⟨g,0,U⟩),V m,V t,I J mi,Z fo nf gL,I J ln,Z bo nb gJ],V Tu.Dw] W fun e w'=>qH W (Tu.said 400 []) e w'):=fun W O=>rU Tu.Dw (by decide) (HF.o.stay O) H;unfold Tu.Dw at D;clear H;go_enter func118,ntmps118;go_wp2_with fail
   refine P.o.mono ?_;rintro e w1 ⟨rfl,a⟩;have d:=H9 (then_ oG.o a);clear p q s u x B C;obtain⟨p,q,s,u,x,B,C⟩:=HC.o _ a;clear a P;go_wp2_with fail
   refine(D.o w1 d.o).mono ?_;rintro e w9 S;obtain⟨HG,ao,cap,n,T⟩:=S.ends d.o;unfold iR at T;subst T;clear S;go_wp2;exact⟨rfl,HG.o⟩
 . have D:Hid (∀W,Below w.heap.size w W->Calls prog 85 #[.agg #[Q (M ⟨g,0,U⟩),V m,V t,I J mi,Z fo nf gL,I J ln,Z bo nb gJ],V Tu.Dw] W fun e w'=>e=Y (.tuple #[V ⟨v.toArray⟩,.bool F])∧Below W.heap.size W w'):=fun W O=>Ij Tu.Dw (by decide) (HF.o.stay O) H;unfold Tu.Dw at D;clear H;generalize (⟨v.toArray⟩:av)=vb at *;cases f with
   | false =>
     have hz:z=-1:=HY.o.1;refine⟨fun _=>?_,fun L=>absurd (R (R ⟨fun e=>by omega,fun e=>by cases e⟩)) L⟩;go_enter func118,ntmps118;go_wp2_with fail
     refine P.o.mono ?_;rintro e w1 ⟨rfl,a⟩;have d:=H9 (then_ oG.o a);clear p q s u x B C;obtain⟨p,q,s,u,x,B,C⟩:=HC.o _ a;clear a P;go_wp2_with fail
     refine(D.o w1 d.o).mono ?_;rintro e N ⟨rfl,i⟩;have j:=H9 (then_ d.o i);clear i D p q s u x B C;go_wp2_with fail
     refine(iQ 400 U 0 0 N).mono ?_;rintro e w3 ⟨rfl,k⟩;rw[k];clear k;go_wp2_with fail
     refine(iV 400 400 rfl N).mono ?_;rintro e w9 S;obtain⟨HG,ao,cap,n,T⟩:=S.ends j.o;unfold iR at T;subst T;clear S;go_wp2;exact⟨rfl,HG.o⟩
   | true =>
     have hz:z=y:=HY.o.1;subst hz;have hpos:=HY.o.2 rfl;refine⟨fun G=>?_,fun _=>?_⟩
     . exfalso;rcases G with e | e | e
       . cases e
       . cases e.1
       . have:=e.1 hpos;cases this
     clear hpos;go_enter func118,ntmps118;go_wp2_with fail
     refine P.o.mono ?_;rintro e w1 ⟨rfl,a⟩;have d:=H9 (then_ oG.o a);clear p q s u x B C;obtain⟨p,q,s,u,x,B,C⟩:=HC.o _ a;clear a P;go_wp2_with fail
     refine(D.o w1 d.o).mono ?_;rintro e N ⟨rfl,i⟩;have j:=H9 (then_ d.o i);clear i D p q s u x B C;go_wp2_with fail
     refine(iQ 400 U 0 0 N).mono ?_;rintro e w3 ⟨rfl,k⟩;rw[k];clear k;go_wp2_with fail
     refine(iQ 400 U 0 0 N).mono ?_;rintro e w3 ⟨rfl,k⟩;rw[k];clear k;go_wp2;go_ret;exact⟨rfl,j.o⟩
end
def Tu.inside (s:av):Bool:=decide (7<=s.size)&&decide (s.data.toList.take 7=Tu.lH.data.toList)
theorem yT (s:av)(w:X)(g:s.size<=100000):Calls prog 82 #[V s,V ⟨#[47,102,105,108,101,115,47]⟩] w fun e w'=>e=Y (.bool (Tu.inside s))∧w'=w:=by
 by_cases d:7<=s.size
 . have a:(7:Int)<=(s.size:Int):=by omega
   obtain⟨b,f⟩:∃b,((s.extract 0 7).toList==([47,102,105,108,101,115,47]:au))=b:=⟨_,rfl⟩;have c:Hid (Tu.inside s=b):=by
    unfold Hid Tu.inside;rw[aH d,Bool.true_and,<-f,Tu.ahE];rw[aG,bQ,aS];rfl
   rw[c.o];go_enter func82,ntmps82;go_wp2;go_ret;exact⟨rfl,rfl⟩
 . have a:¬(7:Int)<=(s.size:Int):=by omega
   have c:Hid (Tu.inside s=F):=by
    unfold Hid Tu.inside;rw[aI d,Bool.false_and]
   rw[c.o];go_enter func82,ntmps82;go_wp2;go_ret;exact⟨rfl,rfl⟩
theorem BS (s:av)(w:X)(a:s.size<=100000):Calls prog 49 #[V s,V ⟨#[47,102,105,108,101,115,47]⟩] w fun e w'=>e=Y (.bool (Tu.inside s))∧w'=w:=by
 have c:=H9 (yT s w a);generalize Tu.inside s=b at *;go_enter func49,ntmps49;go_wp2_with fail
 refine c.o.mono ?_;rintro e f ⟨rfl,d⟩;rw[d];go_wp2;go_ret;exact⟨rfl,rfl⟩
theorem Sy (s:av)(w:X)(f:s.size<=100000):Calls prog 108 #[V s] w fun e w'=>e=Y (.bool (Tu.ours s))∧w'=w:=by
 have g:=H9 (BS s w f);obtain⟨b,i⟩:∃b,(s.toList==([47,102,105,108,101,115]:au))=b:=⟨_,rfl⟩;have a:s=Tu.sW<->b=true:=by rw[<-i];exact Tu.Yp s Tu.sW _ rfl
 have d:Hid (Tu.ours s=(b||Tu.inside s)):=by
  unfold Hid Tu.ours;rw[show decide (s=Tu.sW)=b from by rw[aG,bQ];exact a];rfl
 rw[d.o];clear a d;generalize Tu.inside s=c at *;cases b with
 | true =>
   go_enter func108,ntmps108;go_wp2;go_ret;exact⟨rfl,rfl⟩
 | false =>
   go_enter func108,ntmps108;go_wp2_with fail
   refine g.o.mono ?_;rintro e k ⟨rfl,j⟩;rw[j];go_wp2;go_ret;exact⟨by simp,rfl⟩
theorem Oi (s:av)(w:X)(f:s.size<=100000)(a:Tu.inside s=true):Calls prog 123 #[V s,V ⟨#[47,102,105,108,101,115,47]⟩] w fun e w'=>e=Y (.tuple #[V (s.extract 7 s.size),.bool true])∧w'=w:=by
 have b:=H9 (yT s w f);rw[a] at b;have g:7<=s.size:=by
  unfold Tu.inside at a;rw[cZ,bQ] at a;exact a.1
 have c:(7:Int)<=(s.size:Int):=by omega
 have i:Hid (Calls prog 165 #[V s,V ⟨#[47,102,105,108,101,115,47]⟩] w fun e w'=>e=Y (.tuple #[V (s.extract 7 s.size),.bool true])∧w'=w):=by
  unfold Hid;clear a;go_enter func165,ntmps165;go_wp2_with fail
  refine b.o.mono ?_;rintro e j ⟨rfl,d⟩;rw[d];go_wp2;go_ret2;exact⟨rfl,rfl⟩
 clear b a g c;generalize s.extract 7 s.size=x at *;go_enter func123,ntmps123;go_wp2_with fail
 refine i.o.mono ?_;rintro e j ⟨rfl,d⟩;rw[d];go_wp2;go_ret2;exact⟨rfl,rfl⟩
theorem Sz (s:av)(w:X)(d:s.size<=100000)(a:Tu.inside s=F):Calls prog 123 #[V s,V ⟨#[47,102,105,108,101,115,47]⟩] w fun e w'=>e=Y (.tuple #[V s,.bool F])∧w'=w:=by
 have b:=H9 (yT s w d);rw[a] at b;have f:Hid (Calls prog 165 #[V s,V ⟨#[47,102,105,108,101,115,47]⟩] w fun e w'=>e=Y (.tuple #[V s,.bool F])∧w'=w):=by
  unfold Hid;clear a;go_enter func165,ntmps165;go_wp2_with fail
  refine b.o.mono ?_;rintro e g ⟨rfl,c⟩;rw[c];go_wp2;go_ret2;exact⟨rfl,rfl⟩
 clear b a;go_enter func123,ntmps123;go_wp2_with fail
 refine f.o.mono ?_;rintro e g ⟨rfl,c⟩;rw[c];go_wp2;go_ret2;exact⟨rfl,rfl⟩
def Wx:av:=⟨#[67,111,110,116,101,110,116,45,76,101,110,103,116,104]⟩
def Rp.fault (st:Int)(l:ak):Nat:=if Rp.word st=[] then 11 else if 16<=l.length then 8 else if (Fd.vals Wx l).length≠0 then 12 else 0
theorem Oj (w:X)(st:Int)(l:ak)(fo bo:aj)(gL gJ nb:Nat)(n:jm w fo gL l.length (gT l))(s:l.length<=1000000)(q:∀p∈l,p.1.size<=2000∧p.2.size<=2000):
 Calls prog 144 #[.agg #[I J st,Z fo l.length gL,Z bo nb gJ]] w fun e w'=>e=Y (I J (Rp.fault st l:Nat))∧Below w.heap.size w w':=by
 have t:Hid (∀W,jI w #[I J st,Z fo l.length gL,Z bo nb gJ] 88 W->W.cell? ⟨w.heap.size,0,U⟩=M (I J st)∧W.cell? ⟨w.heap.size,1,U⟩=M (Z fo l.length gL)∧W.cell? ⟨w.heap.size,2,U⟩=M (Z bo nb gJ)):=fun W h=>⟨h.cell 0,h.cell 1,h.cell 2⟩;have d:=H9 (jI.made w #[I J st,Z fo l.length gL,Z bo nb gJ] 88);have i:=H9 (uf l Wx fo gL l.length _ (n.stay d.o.below) rfl s q (by decide));have u:=H9 (fun W=>EC st W);clear n q;obtain⟨v,x,y⟩:=t.o _ d.o;go_enter func144,ntmps144;go_wp2_with fail
 refine(u.o _).mono ?_;rintro e G ⟨rfl,j⟩;subst j;by_cases a:Rp.word st=[]
 . have b:Hid (Rp.fault st l=11):=by unfold Hid Rp.fault;rw[if_pos a]
   have z:((⟨(Rp.word st).toArray⟩:av).toList==([]:au))=true:=by rw[Lib.toList_data,a];rfl
   generalize (⟨(Rp.word st).toArray⟩:av)=B at *;clear a;go_wp2;go_ret;exact⟨by rw[b.o];rfl,d.o.below⟩
 . have z:((⟨(Rp.word st).toArray⟩:av).toList==([]:au))=F:=by rw[Lib.toList_data,aR];simpa using a
   have c:Hid (Rp.fault st l=if 16<=l.length then 8 else if (Fd.vals Wx l).length≠0 then 12 else 0):=by unfold Hid Rp.fault;rw[if_neg a]
   generalize (⟨(Rp.word st).toArray⟩:av)=B at *;clear a;by_cases f:16<=l.length
   . have b:Hid (Rp.fault st l=8):=by unfold Hid;rw[c.o,if_pos f]
     have k:decide ((l.length:Int)≥16)=true:=by rw[bQ];omega
     clear c;go_wp2;go_ret;exact⟨by rw[b.o];rfl,d.o.below⟩
   . have k:decide ((l.length:Int)≥16)=F:=by rw[bP];omega
     rw[if_neg f] at c;unfold Wx at i;go_wp2_with fail
     refine i.o.mono ?_;rintro e H ⟨L,N,rfl,_,g⟩;have r:=H9 (d.o.stay g);clear g v x y i;rw[show(⟨#[67,111,110,116,101,110,116,45,76,101,110,103,116,104]⟩:av)=Wx from rfl];generalize (Fd.vals Wx l).length=m at *;by_cases C:0<m
     . have b:Hid (Rp.fault st l=12):=by unfold Hid;rw[c.o,if_pos (by omega)]
       have D:decide ((m:Int) > 0)=true:=by rw[bQ];omega
       clear c;go_wp2;go_ret;exact⟨by rw[b.o];rfl,r.o.below⟩
     . have b:Hid (Rp.fault st l=0):=by unfold Hid;rw[c.o,if_neg (by omega)]
       have D:decide ((m:Int) > 0)=F:=by rw[bP];omega
       clear c;go_wp2;go_ret;exact⟨by rw[b.o];rfl,r.o.below⟩
inductive lT (S:Nat->Prop)(w:X)(g:Nat)(r:Sr.Sh×Tu.zi):Ending->X->Prop
 | ret {ao:aj} {cap n:Nat} {w':X} (hn:r.2.2.length=n) (hO:gU w' w.heap.size 111 2 ao cap n (gT r.2.2)) (hat:iH w' (gM S w) g r.1) (hT:Turns S w w'):lT S w g r (Y (.agg #[I J (r.2.1:Int),Z ao n cap,Z U 0 0])) w'
 | gave {ao:aj} {cap n:Nat} {w':X} (hn:r.2.2.length=n) (hO:gU w' w.heap.size 111 2 ao cap n (gT r.2.2)) (hat:iH w' (gM S w) g r.1) (hT:Turns S w w'):lT S w g r (iR (r.2.1:Int) ao n cap) w'
theorem lT.of {S:Nat->Prop}{w:X}{g:Nat}{r:Sr.Sh×Tu.zi}{e:Ending}{w':X}(h:zQ iH S w g r e w'):lT S w g r e w':=by
 obtain⟨⟨i,b,n,rfl,c,d⟩,a,f⟩:=h;exact .ret c d a f
structure wR (w0 w:X)(S:Nat->Prop):Prop where
 pow:ny w0
 vM:Below w0.heap.size w0 w
 far:∀k,S k->w0.heap.size<=k
section
variable {S S':Nat->Prop} {w0 w W W':X} {g:Nat} {bs:List Obj} {s:Sr.Sh}
theorem jr.new {O:ObP}(h:jr O S w g bs s S' W):∀k,S' k->gM S w k:=fun k e=>by
 rcases h.ap k e with a | a
 . exact A a.1
 . exact R (by omega)
theorem jr.pow {O:ObP}(h:jr O S w g bs s S' W)(p:wR w0 w S):ny W:=p.pow.stay (p.vM.trans (h.tu.below (fun k e=>p.far k e.1) p.vM.size))
theorem jr.fell (h:jr iH S w g bs s S' W){a:Tu.zi}{e:Ending}(c:qH W a e W'):Hid (lT S w g (s,a) e W')∧∃(ao:aj) (cap n:Nat),e=iR (a.1:Int) ao n cap:=by
 obtain⟨ao,cap,n,rfl,d,f,i⟩:=c;have b:=h.stay iJ i;exact⟨.gave d (f.mono (dF (dI _ _) h.sz)) (b.sh.mono (fun k _ e=>b.new k e)) (b.tu.mono (fun k e=>e.1)),ao,cap,n,rfl⟩
theorem jr.Ma (h:jr iH S w g bs s S' W){r:Sr.Sh×Tu.zi}{ao:aj}{cap n:Nat}(c:r.2.2.length=n)(d:gU W' W.heap.size 111 2 ao cap n (gT r.2.2))(a:iH W' (gM S' W) g r.1)(f:Turns S' W W'):lT S w g r (iR (r.2.1:Int) ao n cap) W':=by
 have b:=h.did a f;exact .gave c (d.mono (dF (dI _ _) h.sz)) (b.sh.mono (fun k _ e=>b.new k e)) (b.tu.mono (fun k e=>e.1))
end
section
variable {g:Nat} {m t:av} {mi ln:Int} {l:ak} {fo:aj} {gL nf:Nat} {bo:aj} {gJ nb:Nat} {w:X} {S:Nat->Prop} {s:Sr.Sh}
theorem QK (h:iH w S g s)(a:Obj):jr iH S w g [K #[Q (M ⟨g,0,U⟩),V m,V t,I J mi,Z fo nf gL,I J ln,Z bo nb gJ] 123 (0,0),a] s (fun k=>S k∧k<w.heap.size) ((w.alloc (K #[Q (M ⟨g,0,U⟩),V m,V t,I J mi,Z fo nf gL,I J ln,Z bo nb gJ] 123)).alloc a):=by
 have b:(w.alloc (K #[Q (M ⟨g,0,U⟩),V m,V t,I J mi,Z fo nf gL,I J ln,Z bo nb gJ] 123)).heap.size=w.heap.size+1:=fV ..;exact((jr.start iJ h).box iJ rfl (fun k e=>e.2) _).box iJ b (fun k e=>by rw[b];have:=e.2;omega) _
theorem jr.ex {bs:List Obj}{S':Nat->Prop}{a:Sr.Sh}{W:X}(h:jr iH S w g (K #[Q (M ⟨g,0,U⟩),V m,V t,I J mi,Z fo nf gL,I J ln,Z bo nb gJ] 123 (0,0)::bs) a S' W):W.cell? ⟨w.heap.size,0,U⟩=M (Q (M ⟨g,0,U⟩))∧W.cell? ⟨w.heap.size,1,U⟩=M (V m)∧W.cell? ⟨w.heap.size,2,U⟩=M (V t)∧W.cell? ⟨w.heap.size,3,U⟩=M (I J mi)∧W.cell? ⟨w.heap.size,4,U⟩=M (Z fo nf gL)∧W.cell? ⟨w.heap.size,5,U⟩=M (I J ln)∧W.cell? ⟨w.heap.size,6,U⟩=M (Z bo nb gJ):=by
 have r:=h.row 0 rfl;exact⟨fJ W _ 0 _ _ _ r,fJ W _ 1 _ _ _ r,fJ W _ 2 _ _ _ r,fJ W _ 3 _ _ _ r,fJ W _ 4 _ _ _ r,fJ W _ 5 _ _ _ r,fJ W _ 6 _ _ _ r⟩
theorem Ce (h:iH w S g s)(ok:Sr.Ok s)(hP:ny w)(ht:t.size<=100000):
 (Tu.AB s.h t=U->Calls prog 89 #[.agg #[Q (M ⟨g,0,U⟩),V m,V t,I J mi,Z fo nf gL,I J ln,Z bo nb gJ]] w fun e w'=>qH w (Tu.said 404 []) e w') ∧
 (∀u,Tu.AB s.h t=M u->Calls prog 89 #[.agg #[Q (M ⟨g,0,U⟩),V m,V t,I J mi,Z fo nf gL,I J ln,Z bo nb gJ]] w fun e w'=>∃(ao:aj) (cap:Nat),e=Y (.agg #[I J u.id,I J u.size,V u.note,Z ao u.bytes.length cap,I J u.sent])∧Below w.heap.size w w'):=by
 have T2:jr iH S w g [K #[Q (M ⟨g,0,U⟩),V m,V t,I J mi,Z fo nf gL,I J ln,Z bo nb gJ] 123 (0,0),K #[I J 0,I J 0,V ⟨#[]⟩,Z U 0 0,I J 0] 101] s (fun k=>S k∧k<w.heap.size) ((w.alloc (K #[Q (M ⟨g,0,U⟩),V m,V t,I J mi,Z fo nf gL,I J ln,Z bo nb gJ] 123)).alloc (K #[I J 0,I J 0,V ⟨#[]⟩,Z U 0 0,I J 0] 101)):=QK h _;have z:Hid (Below w.heap.size w ((w.alloc (K #[Q (M ⟨g,0,U⟩),V m,V t,I J mi,Z fo nf gL,I J ln,Z bo nb gJ] 123)).alloc (K #[I J 0,I J 0,V ⟨#[]⟩,Z U 0 0,I J 0] 101))):=then_ ((fI _ w).alloc (aL _) _) ((fI _ _).alloc (aL _) _);have HC:Hid (∀W,jr iH S w g [K #[Q (M ⟨g,0,U⟩),V m,V t,I J mi,Z fo nf gL,I J ln,Z bo nb gJ] 123 (0,0),K #[I J 0,I J 0,V ⟨#[]⟩,Z U 0 0,I J 0] 101] s (fun k=>S k∧k<w.heap.size) W->W.cell? ⟨w.heap.size,0,U⟩=M (Q (M ⟨g,0,U⟩))∧W.cell? ⟨w.heap.size,1,U⟩=M (V m)∧W.cell? ⟨w.heap.size,2,U⟩=M (V t)∧W.cell? ⟨w.heap.size,3,U⟩=M (I J mi)∧W.cell? ⟨w.heap.size,4,U⟩=M (Z fo nf gL)∧W.cell? ⟨w.heap.size,5,U⟩=M (I J ln)∧W.cell? ⟨w.heap.size,6,U⟩=M (Z bo nb gJ)):=fun W hW=>hW.ex;obtain⟨x0,x1,x2,x3,x4,x5,x6⟩:=HC.o _ T2;have H2:=H9 T2;clear T2;obtain⟨gs,gl,lo,lca,P,hI⟩:=h;have HG:Hid (∀W,Below w.heap.size w W->W.cell? ⟨g,0,U⟩=M (Q (M ⟨gs,0,U⟩))∧iU W P gs s.h):=fun W hW=>⟨fJ W _ 0 _ _ _ (hI.stay hW).row,(hI.stay hW).wE⟩;have qx:=H9 ok;have IC:=H9 hP;clear hI ok hP;cases d:Tu.inside t with
 | false =>
   have B:Hid (∀W,Calls prog 123 #[V t,V ⟨#[47,102,105,108,101,115,47]⟩] W fun e w'=>e=Y (.tuple #[V t,.bool F])∧w'=W):=fun W=>Sz t W ht d;have sG:Hid (∀W,Calls prog 124 #[V t] W fun e w'=>e=Y (.tuple #[I J (Ch.number 10 9 t.data.toList).1,.bool (Ch.number 10 9 t.data.toList).2])∧w'=W):=fun W=>ow t W (by unfold maxLen;omega);have c:Tu.AB s.h t=U:=Tu.QB (fun x=>by
    unfold Tu.inside at d;rw[aH (by omega:7<=t.size),Bool.true_and,bP] at d;exact d x.2.1) s.h
   refine⟨fun _=>?_,fun u r=>by rw[c] at r;cases r⟩;clear c d;generalize Ch.number 10 9 t.data.toList=rn at *;obtain⟨n,okn⟩:=rn;go_enter func89,ntmps89;go_wp2_with fail
   refine(B.o _).mono ?_;rintro e L ⟨rfl,a⟩;rw[a];clear a;go_wp2_with fail
   refine(sG.o _).mono ?_;rintro e L ⟨rfl,a⟩;rw[a];clear a;go_wp2_with fail
   refine(iV 404 404 rfl _).mono ?_;rintro e w9 O;obtain⟨Db,jK,iB,n9,T⟩:=O.ends z.o;unfold iR at T;subst T;clear O;go_wp2;exact⟨rfl,Db.o⟩
 | true =>
   have B:Hid (∀W,Calls prog 123 #[V t,V ⟨#[47,102,105,108,101,115,47]⟩] W fun e w'=>e=Y (.tuple #[V (t.extract 7 t.size),.bool true])∧w'=W):=fun W=>Oi t W ht d;have sG:Hid (∀W,Calls prog 124 #[V (t.extract 7 t.size)] W fun e w'=>e=Y (.tuple #[I J (Ch.number 10 9 (t.data.toList.drop 7)).1,.bool (Ch.number 10 9 (t.data.toList.drop 7)).2])∧w'=W):=fun W=>by
    have:=ow (t.extract 7 t.size) W (by rw[ByteArray.size_extract];unfold maxLen;omega);rw[Tu.aaI] at this;exact this
   have hin2:t.data.toList.take 7=Tu.lH.data.toList:=by
    unfold Tu.inside at d;rw[cZ,bQ,bQ] at d;exact d.2
   have hsm:(Ch.number 10 9 (t.data.toList.drop 7)).2=true->0<=(Ch.number 10 9 (t.data.toList.drop 7)).1∧(Ch.number 10 9 (t.data.toList.drop 7)).1<1000000000∧7<t.size:=fun e=>⟨(Ch.qJ e).1,(Ch.qJ e).2,by
    rcases aT 7 t.size with h | h
    . exact h
    . exfalso;rw[aJ (by rw[aN];exact h)] at e;revert e;decide⟩
   have C:((Ch.number 10 9 (t.data.toList.drop 7)).2=F∨Ch.jG 8 (Ch.number 10 9 (t.data.toList.drop 7)).1.toNat≠t.data.toList.drop 7)->Tu.AB s.h t=U:=fun e=>Tu.QB (fun x=>e.elim (fun e=>by have h3:=x.2.2.1;rw[e] at h3;cases h3) (fun e=>e x.2.2.2)) s.h;have hye:=fun(h7:7<t.size) (e:(Ch.number 10 9 (t.data.toList.drop 7)).2=true) (e2:Ch.jG 8 (Ch.number 10 9 (t.data.toList.drop 7)).1.toNat=t.data.toList.drop 7)=>Tu.Ws (t:=t) ⟨h7,hin2,e,e2⟩ s.h;clear d hin2;generalize Ch.number 10 9 (t.data.toList.drop 7)=rn at *;obtain⟨n,okn⟩:=rn;simp only at hsm C hye;cases okn with
   | false =>
     have c:=C (A rfl);refine⟨fun _=>?_,fun u r=>by rw[c] at r;cases r⟩;clear C hye hsm c;generalize t.extract 7 t.size=nm at *;go_enter func89,ntmps89;go_wp2_with fail
     refine(B.o _).mono ?_;rintro e L ⟨rfl,a⟩;rw[a];clear a;go_wp2_with fail
     refine(sG.o _).mono ?_;rintro e L ⟨rfl,a⟩;rw[a];clear a;go_wp2_with fail
     refine(iV 404 404 rfl _).mono ?_;rintro e w9 O;obtain⟨Db,jK,iB,n9,T⟩:=O.ends z.o;unfold iR at T;subst T;clear O;go_wp2;exact⟨rfl,Db.o⟩
   | true =>
     obtain⟨hn0,hn1,h7⟩:=hsm rfl;have HIt:Hid (∀W,Below w.heap.size w W->Calls prog 122 #[I J n] W fun e w'=>e=Y (V (Tu.dec n.toNat))∧Below W.heap.size W w'):=fun W hW=>by
      have:=tZ n.toNat (by omega) W (IC.o.stay hW);rw[show((n.toNat:Nat):Int)=n from by omega] at this;exact this
     have D:=H9 (HIt.o _ z.o);obtain⟨bs,hbs⟩:∃b,((Tu.dec n.toNat).toList==(t.extract 7 t.size).toList)=b:=⟨_,rfl⟩;have eS:Ch.jG 8 n.toNat=t.data.toList.drop 7<->bs=true:=by
      rw[<-hbs,Lib.toList_data,Lib.toList_data,Tu.aaI,aS];rfl
     generalize Tu.dec n.toNat=nd at *;cases bs with
     | false =>
       have c:=C (R (fun e=>by have:=eS.1 e;cases this));refine⟨fun _=>?_,fun u r=>by rw[c] at r;cases r⟩;clear C hye hsm c eS;generalize t.extract 7 t.size=nm at *;go_enter func89,ntmps89;go_wp2_with fail
       refine(B.o _).mono ?_;rintro e L ⟨rfl,a⟩;rw[a];clear a;go_wp2_with fail
       refine(sG.o _).mono ?_;rintro e L ⟨rfl,a⟩;rw[a];clear a;go_wp2_with fail
       refine D.o.mono ?_;rintro e w3 ⟨rfl,f⟩;have y:=H9 (then_ z.o f);clear f D;go_wp2_with fail
       refine(iV 404 404 rfl _).mono ?_;rintro e w9 O;obtain⟨Db,jK,iB,n9,T⟩:=O.ends y.o;unfold iR at T;subst T;clear O;go_wp2;exact⟨rfl,Db.o⟩
     | true =>
       have r:=hye h7 rfl (eS.2 rfl);clear C hye hsm eS;generalize t.extract 7 t.size=nm at *;cases hp:Sp.place s.h.l n with
       | none =>
         rw[hp] at r;simp only at r;have HGt:Hid (∀W,Below w.heap.size w W->Calls prog 125 #[Q (M ⟨gs,0,U⟩),I J n] W fun e w'=>e=Y (.tuple #[.agg #[I J 0,I J 0,V ⟨#[]⟩,Z U 0 0,I J 0],.bool F])∧Below W.heap.size W w'):=fun W hW=>Tm s.h P gs n W (HG.o W hW).2 qx.o.h hp;refine⟨fun _=>?_,fun u j=>by rw[r] at j;cases j⟩;clear r hp;go_enter func89,ntmps89;go_wp2_with fail
         refine(B.o _).mono ?_;rintro e L ⟨rfl,a⟩;rw[a];clear a;go_wp2_with fail
         refine(sG.o _).mono ?_;rintro e L ⟨rfl,a⟩;rw[a];clear a;go_wp2_with fail
         refine D.o.mono ?_;rintro e w3 ⟨rfl,f⟩;have y:=H9 (then_ z.o f);have H3:=H9 (H2.o.stay iJ f);clear f D x0 x1 x2 x3 x4 x5 x6;obtain⟨x0,x1,x2,x3,x4,x5,x6⟩:=HC.o _ H3.o;have g0:=(HG.o _ y.o).1;go_wp2_with fail
         refine(iQ 404 U 0 0 _).mono ?_;rintro e L ⟨rfl,a⟩;rw[a];clear a;go_wp2_with fail
         refine(HGt.o _ y.o).mono ?_;rintro e q ⟨rfl,G⟩;have jJ:=H9 (then_ (then_ y.o G) ((fI _ q).alloc (aL _) (K #[I J 0,I J 0,V ⟨#[]⟩,Z U 0 0,I J 0] 101)));clear G HGt x0 x1 x2 x3 x4 x5 x6 g0;go_wp2_with fail
         refine(iV 404 404 rfl _).mono ?_;rintro e w9 O;obtain⟨Db,jK,iB,n9,T⟩:=O.ends jJ.o;unfold iR at T;subst T;clear O;go_wp2;exact⟨rfl,Db.o⟩
       | some i =>
         rw[hp] at r;simp only at r;have hi:=Sp.tT hp;rw[dB hi] at r;have HGt:Hid (∀W,Below w.heap.size w W->Calls prog 125 #[Q (M ⟨gs,0,U⟩),I J n] W fun e w'=>∃ao cap,e=Y (.tuple #[.agg #[I J s.h.l[i].id,I J s.h.l[i].size,V s.h.l[i].note,Z ao s.h.l[i].bytes.length cap,I J s.h.l[i].sent],.bool true])∧iG w' ao cap s.h.l[i].bytes∧Below W.heap.size W w'):=fun W hW=>Tn s.h P gs n i W (HG.o W hW).2 qx.o.h hp hi;generalize s.h.l[i]=u0 at *;refine⟨fun j=>(by rw[r] at j;cases j),fun u j=>?_⟩;rw[r] at j;injection j with j;subst j;clear r hp hi;generalize u0.bytes.length=H at *;go_enter func89,ntmps89;go_wp2_with fail
         refine(B.o _).mono ?_;rintro e L ⟨rfl,a⟩;rw[a];clear a;go_wp2_with fail
         refine(sG.o _).mono ?_;rintro e L ⟨rfl,a⟩;rw[a];clear a;go_wp2_with fail
         refine D.o.mono ?_;rintro e w3 ⟨rfl,f⟩;have y:=H9 (then_ z.o f);have H3:=H9 (H2.o.stay iJ f);clear f D x0 x1 x2 x3 x4 x5 x6;obtain⟨x0,x1,x2,x3,x4,x5,x6⟩:=HC.o _ H3.o;have g0:=(HG.o _ y.o).1;go_wp2_with fail
         refine(iQ 404 U 0 0 _).mono ?_;rintro e L ⟨rfl,a⟩;rw[a];clear a;go_wp2_with fail
         refine(HGt.o _ y.o).mono ?_;rintro e q ⟨ao,cap,rfl,_,G⟩;have hb5:=(fI _ q).alloc (aL _) (K #[I J u0.id,I J u0.size,V u0.note,Z ao H cap,I J u0.sent] 101);have qX:=H9 (then_ (then_ y.o G) hb5);have N:=((H3.o.stay iJ G).stay iJ hb5).row 1 rfl;have SC:=H9 N;have v0:(q.alloc (K #[I J u0.id,I J u0.size,V u0.note,Z ao H cap,I J u0.sent] 101)).cell? ⟨q.heap.size,0,U⟩=M (I J u0.id):=World.cell?_alloc_mark q _ _ _ 0;have v1:(q.alloc (K #[I J u0.id,I J u0.size,V u0.note,Z ao H cap,I J u0.sent] 101)).cell? ⟨q.heap.size,1,U⟩=M (I J u0.size):=World.cell?_alloc_mark q _ _ _ 1;have v2:(q.alloc (K #[I J u0.id,I J u0.size,V u0.note,Z ao H cap,I J u0.sent] 101)).cell? ⟨q.heap.size,2,U⟩=M (V u0.note):=World.cell?_alloc_mark q _ _ _ 2;have v3:(q.alloc (K #[I J u0.id,I J u0.size,V u0.note,Z ao H cap,I J u0.sent] 101)).cell? ⟨q.heap.size,3,U⟩=M (Z ao H cap):=World.cell?_alloc_mark q _ _ _ 3;have v4:(q.alloc (K #[I J u0.id,I J u0.size,V u0.note,Z ao H cap,I J u0.sent] 101)).cell? ⟨q.heap.size,4,U⟩=M (I J u0.sent):=World.cell?_alloc_mark q _ _ _ 4;have z0:=fJ _ _ 0 _ _ _ N;have z1:=fJ _ _ 1 _ _ _ N;have z2:=fJ _ _ 2 _ _ _ N;have z3:=fJ _ _ 3 _ _ _ N;have z4:=fJ _ _ 4 _ _ _ N
         have y0:=fK _ _ 0 _ _ N;have y1:=fK _ _ 1 _ _ N;have y2:=fK _ _ 2 _ _ N;have y3:=fK _ _ 3 _ _ N;have y4:=fK _ _ 4 _ _ N
         simp at z0 z1 z2 z3 z4;clear G HGt x0 x1 x2 x3 x4 x5 x6 g0 hb5 N;go_upto_region 5 with fail
         generalize (q.alloc (K #[I J u0.id,I J u0.size,V u0.note,Z ao H cap,I J u0.sent] 101))=w5 at *;generalize q.heap.size=k4 at *;go_wp2_with fail
         refine(iQ 404 U 0 0 _).mono ?_;rintro e L ⟨rfl,a⟩;rw[a];clear a;go_wp2;have hb6:=((((qX.o.setCell (p:=⟨w.heap.size+1,0,U⟩) (dI _ _) (I J u0.id)).setCell (p:=⟨w.heap.size+1,1,U⟩) (dI _ _) (I J u0.size)).setCell (p:=⟨w.heap.size+1,2,U⟩) (dI _ _) (V u0.note)).setCell (p:=⟨w.heap.size+1,3,U⟩) (dI _ _) (Z ao H cap)).setCell (p:=⟨w.heap.size+1,4,U⟩) (dI _ _) (I J u0.sent);have EN:=fM _ _ 4 _ _ (I J u0.sent) (fM _ _ 3 _ _ (Z ao H cap) (fM _ _ 2 _ _ (V u0.note) (fM _ _ 1 _ _ (I J u0.size) (fM _ _ 0 _ _ (I J u0.id) SC.o))));generalize (((((w5.setCell ⟨w.heap.size+1,0,U⟩ (Value.int J u0.id)).setCell ⟨w.heap.size+1,1,U⟩ (Value.int J u0.size)).setCell ⟨w.heap.size+1,2,U⟩ (Value.string u0.note)).setCell ⟨w.heap.size+1,3,U⟩ (Value.slice ao H cap)).setCell ⟨w.heap.size+1,4,U⟩ (Value.int J u0.sent))=w6 at hb6 EN ⊢;have r0:w6.cell? ⟨w.heap.size+1,0,U⟩=M (I J u0.id):=fJ w6 _ 0 _ _ _ EN;have r1:w6.cell? ⟨w.heap.size+1,1,U⟩=M (I J u0.size):=fJ w6 _ 1 _ _ _ EN;have r2:w6.cell? ⟨w.heap.size+1,2,U⟩=M (V u0.note):=fJ w6 _ 2 _ _ _ EN;have r3:w6.cell? ⟨w.heap.size+1,3,U⟩=M (Z ao H cap):=fJ w6 _ 3 _ _ _ EN;have r4:w6.cell? ⟨w.heap.size+1,4,U⟩=M (I J u0.sent):=fJ w6 _ 4 _ _ _ EN;exact gq (v:=.agg #[I J u0.id,I J u0.size,V u0.note,Z ao H cap,I J u0.sent]) (by simp[results,results89,go_sem,r0,r1,r2,r3,r4]) rfl ⟨ao,cap,rfl,hb6⟩
end
section
variable {g:Nat} {m t:av} {mi ln:Int} {l:ak} {fo:aj} {gL nf:Nat} {bo:aj} {gJ nb:Nat} {w:X}
theorem Mq (h:pW w l fo gL nf)(b:(Tu.one (Tu.vals Tu.MU l)).2=9):
 Calls prog 126 #[.agg #[Q (M ⟨g,0,U⟩),V m,V t,I J mi,Z fo nf gL,I J ln,Z bo nb gJ]] w fun e w'=>qH w (Tu.said 400 []) e w':=by
 have a:=(fI _ w).alloc (aL _) (K #[Q (M ⟨g,0,U⟩),V m,V t,I J mi,Z fo nf gL,I J ln,Z bo nb gJ] 123);have i:=H9 a;obtain⟨p,q,r,s,u,x,y⟩:=uS (g:=g) (m:=m) (t:=t) (mi:=mi) (ln:=ln) (fo:=fo) (gL:=gL) (nf:=nf) (bo:=bo) (gJ:=gJ) (nb:=nb) (w:=w) (fI _ _);have c:=H9 (rU (g:=g) (m:=m) (t:=t) (mi:=mi) (ln:=ln) (bo:=bo) (gJ:=gJ) (nb:=nb) Tu.fCT (by decide) (h.stay a) (v:=(Tu.one (Tu.vals Tu.MU l)).1) (by rw[Tu.Es,<-b]));unfold Tu.fCT at c;clear h a b;go_enter func126,ntmps126;go_wp2_with fail
 refine c.o.mono ?_;rintro e z d;obtain⟨j,B,k,n,f⟩:=d.ends i.o;unfold iR at f;subst f;clear d;go_wp2;exact⟨rfl,j.o⟩
theorem O4 (h:pW w l fo gL nf)(G:(Tu.one (Tu.vals Tu.MU l)).2≠9):
 (Tu.Dx (Tu.one (Tu.vals Tu.MU l)).1=F->Calls prog 126 #[.agg #[Q (M ⟨g,0,U⟩),V m,V t,I J mi,Z fo nf gL,I J ln,Z bo nb gJ]] w fun e w'=>qH w (Tu.said 415 []) e w') ∧
 (Tu.Dx (Tu.one (Tu.vals Tu.MU l)).1=true->Calls prog 126 #[.agg #[Q (M ⟨g,0,U⟩),V m,V t,I J mi,Z fo nf gL,I J ln,Z bo nb gJ]] w fun e w'=>e=Y (.tuple #[])∧Below w.heap.size w w'):=by
 have y:=(fI _ w).alloc (aL _) (K #[Q (M ⟨g,0,U⟩),V m,V t,I J mi,Z fo nf gL,I J ln,Z bo nb gJ] 123);have q:=H9 y;obtain⟨H,L,N,O,P,S,T⟩:=uS (g:=g) (m:=m) (t:=t) (mi:=mi) (ln:=ln) (fo:=fo) (gL:=gL) (nf:=nf) (bo:=bo) (gJ:=gJ) (nb:=nb) (w:=w) (fI _ _);have hz:=h.val Tu.MU;generalize hv:Tu.one (Tu.vals Tu.MU l)=r at *;obtain⟨v,c⟩:=r;simp only at hz G;have n:=H9 (oO (g:=g) (m:=m) (t:=t) (mi:=mi) (ln:=ln) (bo:=bo) (gJ:=gJ) (nb:=nb) Tu.fCT (by decide) (h.stay y) (by rw[Tu.Es];exact hv) G);unfold Tu.fCT at n;have s:Hid (∀W,Calls prog 168 #[V ⟨v.toArray⟩] W fun e w'=>uT W (Pm.kr v) e w'):=fun W=>by
  have:=yS ⟨v.toArray⟩ W (by show v.toArray.size<=_;rw[bL];omega);rw[show(⟨v.toArray⟩:av).data.toList=v from by simp] at this;exact this
 have u:Hid (∀word i code,Ww (Pm.kr v) word i code->(Tu.Dx v=(word.toList==([97,112,112,108,105,99,97,116,105,111,110,47,111,102,102,115,101,116,43,111,99,116,101,116,45,115,116,114,101,97,109]:au)))):=fun word i code f=>by
  rw[aG,aS,Lib.toList_data];unfold Tu.Dx;cases hm:Pm.kr v with
  | inl c =>
    rw[hm] at f;obtain⟨h1,z,h3⟩:=f;subst z;constructor
    . intro e;cases e
    . intro e;simp at e
  | inr x =>
    rw[hm] at f;obtain⟨h1,z,h3⟩:=f;simp only[bQ];rw[z];rfl
 clear h y hv hz;generalize decide (c=0)=cb at *;generalize (⟨v.toArray⟩:av)=vb at *;generalize Tu.Dx v=off at *;generalize Pm.kr v=md at *;refine⟨fun p=>?_,fun p=>?_⟩
 . subst p;go_enter func126,ntmps126;go_wp2_with fail
   refine n.o.mono ?_;rintro e B ⟨rfl,a⟩;have b:=H9 (then_ q.o a);clear a n q H L N O P S T;go_wp2_with fail
   refine(s.o B).mono ?_;rintro e C ⟨word,i,D,j,code,rfl,f,_,d⟩;have p:=(u.o _ _ _ f).symm;have k:=H9 (then_ (then_ b.o d) ((fI _ C).alloc (aL _) (K #[V word,Z D i.length j] 172)));clear f d s u b;generalize i.length=np at *;go_wp2_with fail
   refine(iV 415 415 rfl _).mono ?_;rintro e w9 hG;obtain⟨HG,jK,iB,n9,he⟩:=hG.ends k.o;unfold iR at he;subst he;clear hG;go_wp2;exact⟨rfl,HG.o⟩
 . subst p;go_enter func126,ntmps126;go_wp2_with fail
   refine n.o.mono ?_;rintro e B ⟨rfl,a⟩;have b:=H9 (then_ q.o a);clear a n q H L N O P S T;go_wp2_with fail
   refine(s.o B).mono ?_;rintro e C ⟨word,i,D,j,code,rfl,f,_,d⟩;have p:=(u.o _ _ _ f).symm;have k:=H9 (then_ (then_ b.o d) ((fI _ C).alloc (aL _) (K #[V word,Z D i.length j] 172)));clear f d s u b;generalize i.length=np at *;go_wp2_with fail
   refine(iQ 415 U 0 0 _).mono ?_;rintro e w9 ⟨rfl,hw⟩;rw[hw];clear hw;go_wp2;go_end0
   exact⟨rfl,k.o⟩
theorem uZ (p a b x k:Int)(c:av)(q:aj)(r s:Nat)(w:X)(d:-1<=a):
 (0<=a->x≠a->Calls prog 128 #[.agg #[I J p,I J a,V c,Z q r s,I J b],I J x,I J k] w fun e w'=>qH w (Tu.said 400 []) e w') ∧
 (a<0->(2000<x∨x<k)->Calls prog 128 #[.agg #[I J p,I J a,V c,Z q r s,I J b],I J x,I J k] w fun e w'=>qH w (Tu.said 413 []) e w') ∧
 ((0<=a∧x=a)∨(a<0∧¬(2000<x∨x<k))->Calls prog 128 #[.agg #[I J p,I J a,V c,Z q r s,I J b],I J x,I J k] w fun e w'=>e=Y (.tuple #[])∧Below w.heap.size w w'):=by
 have H:=(fI _ w).alloc (aL _) (K #[I J p,I J a,V c,Z q r s,I J b] 101);have u:=H9 H;have T:(w.alloc (K #[I J p,I J a,V c,Z q r s,I J b] 101)).cell? ⟨w.heap.size,1,U⟩=M (I J a):=World.cell?_alloc_mark w _ _ _ 1;clear H;refine⟨fun n v=>?_,fun n f=>?_,fun D=>?_⟩
 . have B:(a != -1)=true:=by rw[cO];omega
   have G:(x==a)=F:=by rw[aR];exact v
   clear v n d;go_enter func128,ntmps128;go_wp2_with fail
   refine(iV 400 400 rfl _).mono ?_;rintro e C i;obtain⟨y,L,N,O,j⟩:=i.ends u.o;unfold iR at j;subst j;clear i;go_wp2;exact⟨rfl,y.o⟩
 . obtain rfl:a=-1:=by omega
   clear n d;by_cases P:2000<x
   . have B:decide (x<=2000)=F:=by rw[bP];omega
     clear f P;go_enter func128,ntmps128;go_wp2_with fail
     refine(iV 413 413 rfl _).mono ?_;rintro e C i;obtain⟨y,L,N,O,j⟩:=i.ends u.o;unfold iR at j;subst j;clear i;go_wp2;exact⟨rfl,y.o⟩
   . have B:decide (x<=2000)=true:=by rw[bQ];omega
     have G:decide (x≥k)=F:=by rw[bP];omega
     clear f P;go_enter func128,ntmps128;go_wp2_with fail
     refine(iV 413 413 rfl _).mono ?_;rintro e C i;obtain⟨y,L,N,O,j⟩:=i.ends u.o;unfold iR at j;subst j;clear i;go_wp2;exact⟨rfl,y.o⟩
 . rcases D with ⟨n,rfl⟩ | ⟨n,S⟩
   . have B:(x != -1)=true:=by rw[cO];omega
     have G:(x==x)=true:=by simp
     clear n d;go_enter func128,ntmps128;go_wp2_with fail
     refine(iQ 400 U 0 0 _).mono ?_;rintro e C ⟨rfl,z⟩;rw[z];clear z;go_wp2;first | go_end0 | refine gq (results_none rfl _ _ _) rfl ?_
     exact⟨rfl,u.o⟩
   . obtain rfl:a=-1:=by omega
     have B:decide (x<=2000)=true:=by rw[bQ];omega
     have G:decide (x≥k)=true:=by rw[bQ];omega
     clear n d S;go_enter func128,ntmps128;go_wp2_with fail
     refine(iQ 413 U 0 0 _).mono ?_;rintro e C ⟨rfl,z⟩;rw[z];clear z;go_wp2;go_end0
     exact⟨rfl,u.o⟩
end
section
variable {g:Nat} {m t:av} {mi ln:Int} {l:ak} {fo:aj} {gL nf:Nat} {bo:aj} {gJ nb:Nat} {w w0:X} {S:Nat->Prop} {s:Sr.Sh}
theorem QS (h:iH w S g s)(a b:Obj):jr iH S w g [K #[Q (M ⟨g,0,U⟩),V m,V t,I J mi,Z fo nf gL,I J ln,Z bo nb gJ] 123 (0,0),a,b] s (fun k=>S k∧k<w.heap.size) (((w.alloc (K #[Q (M ⟨g,0,U⟩),V m,V t,I J mi,Z fo nf gL,I J ln,Z bo nb gJ] 123)).alloc a).alloc b):=by
 have c:((w.alloc (K #[Q (M ⟨g,0,U⟩),V m,V t,I J mi,Z fo nf gL,I J ln,Z bo nb gJ] 123)).alloc a).heap.size=w.heap.size+2:=by rw[fV,fV]
 exact(QK h a).box iJ c (fun k e=>by rw[c];have:=e.2;omega) _
theorem jr.up {bs:List Obj}{S':Nat->Prop}{d:Sr.Sh}{W:X}{u:Sp.Up}{a:aj}{b c:Nat}(h:jr iH S w g (K #[Q (M ⟨g,0,U⟩),V m,V t,I J mi,Z fo nf gL,I J ln,Z bo nb gJ] 123 (0,0)::K #[I J u.id,I J u.size,V u.note,Z a b c,I J u.sent] 101 (0,0)::bs) d S' W):W.cell? ⟨w.heap.size+1,0,U⟩=M (I J u.id)∧W.cell? ⟨w.heap.size+1,1,U⟩=M (I J u.size)∧W.cell? ⟨w.heap.size+1,2,U⟩=M (V u.note)∧W.cell? ⟨w.heap.size+1,3,U⟩=M (Z a b c)∧W.cell? ⟨w.heap.size+1,4,U⟩=M (I J u.sent):=by
 have r:=h.row 1 rfl;exact⟨fJ W _ 0 _ _ _ r,fJ W _ 1 _ _ _ r,fJ W _ 2 _ _ _ r,fJ W _ 3 _ _ _ r,fJ W _ 4 _ _ _ r⟩
theorem Cm (h:iH w S g s)(ok:Sr.Ok s)(u:Sp.Up)(d:aj)(f j:Nat):
 Calls prog 92 #[.agg #[Q (M ⟨g,0,U⟩),V m,V t,I J mi,Z fo nf gL,I J ln,Z bo nb gJ],.agg #[I J u.id,I J u.size,V u.note,Z d f j,I J u.sent]] w fun e w'=>lT S w g (Sr.sync (Sr.drop s u.id).1,Tu.said 204 []) e w':=by
 have a:jr iH S w g [K #[Q (M ⟨g,0,U⟩),V m,V t,I J mi,Z fo nf gL,I J ln,Z bo nb gJ] 123 (0,0),K #[I J u.id,I J u.size,V u.note,Z d f j,I J u.sent] 101 (0,0),K #[I J 0,Z U 0 0,Z U 0 0] 88 (0,0)] s (fun k=>S k∧k<w.heap.size) (((w.alloc (K #[Q (M ⟨g,0,U⟩),V m,V t,I J mi,Z fo nf gL,I J ln,Z bo nb gJ] 123)).alloc (K #[I J u.id,I J u.size,V u.note,Z d f j,I J u.sent] 101)).alloc (K #[I J 0,Z U 0 0,Z U 0 0] 88)):=QS h _ _;have D:Hid (∀W G H,jr iH S w g [K #[Q (M ⟨g,0,U⟩),V m,V t,I J mi,Z fo nf gL,I J ln,Z bo nb gJ] 123 (0,0),K #[I J u.id,I J u.size,V u.note,Z d f j,I J u.sent] 101 (0,0),K #[I J 0,Z U 0 0,Z U 0 0] 88 (0,0)] G H W->W.cell? ⟨w.heap.size,0,U⟩=M (Q (M ⟨g,0,U⟩))∧W.cell? ⟨w.heap.size,1,U⟩=M (V m)∧W.cell? ⟨w.heap.size,2,U⟩=M (V t)∧W.cell? ⟨w.heap.size,3,U⟩=M (I J mi)∧W.cell? ⟨w.heap.size,4,U⟩=M (Z fo nf gL)∧W.cell? ⟨w.heap.size,5,U⟩=M (I J ln)∧W.cell? ⟨w.heap.size,6,U⟩=M (Z bo nb gJ)):=fun W G H hW=>hW.ex;obtain⟨p,q,r,x,y,z,B⟩:=D.o _ _ _ a;obtain⟨v0,v1,v2,v3,v4⟩:=a.up;have L:=H9 a;have N:=H9 (yX a.sh ok u.id);have n:Hid ((Sr.sync (Sr.drop s u.id).1,Tu.said 204 [])=(Sr.sync (Sr.drop s u.id).1,Tu.said 204 [])):=by unfold Hid;rfl
 obtain⟨O,C⟩:∃O,O=(Sr.sync (Sr.drop s u.id).1,Tu.said 204 []):=⟨_,rfl⟩;rw[<-C];clear n;have n:=H9 C;clear a ok h C;go_enter func92,ntmps92;go_wp2_with fail
 refine N.o.mono ?_;rintro e w4 ⟨rfl,P,T⟩;have c:=H9 (L.o.did P T);clear P T N L v0 v1 v2 v3 v4 p q r x y z B;generalize Sr.drop s u.id=ra at *;obtain⟨sa,ca⟩:=ra;simp only at n c ⊢;obtain⟨p,q,r,x,y,z,B⟩:=D.o _ _ _ c.o;have J8:=H9 (oQ c.o.sh);go_wp2_with fail
 refine J8.o.mono ?_;rintro e w5 ⟨rfl,wQ,xP⟩;have H5:=H9 (c.o.turned wQ xP);have Bf:=H9 (jY 204 204 rfl [] U 0 0 w5 (jm.nil w5) rfl (by decide));clear wQ xP J8 c p q r x y z B;go_wp2_with fail
 refine Bf.o.mono ?_;rintro e w9 ⟨jK,iB,n9,rfl,lq,jT,oz⟩;obtain⟨⟨z0,z1,z2,y0,y1,y2⟩,HE⟩:=H5.o.ends iJ (i:=2) rfl (b:=w.heap.size+2) (by first | rfl | omega) (st:=204) (mE:=204) rfl lq (dF (dI _ _) H5.o.sz) jT oz;clear lq jT oz;go_wp2;generalize (((w9.setCell ⟨w.heap.size+2,0,U⟩ (I J 204)).setCell ⟨w.heap.size+2,1,U⟩ (Z jK n9 iB)).setCell ⟨w.heap.size+2,2,U⟩ (Z U 0 0))=wf at *;obtain⟨q0,q1,q2,q3⟩:=HE.o;refine gq (v:=.agg #[I J 204,Z jK n9 iB,Z U 0 0]) (by simp[results,results92,go_sem,q0,q1,q2]) rfl ?_;rw[n.o];exact lT.of q3
end
section
variable {g:Nat} {m t:av} {mi ln:Int} {l:ak} {fo:aj} {gL nf:Nat} {bo:aj} {gJ nb:Nat} {w w0:X} {S:Nat->Prop} {s:Sr.Sh}
theorem yC (a:av)(f:a.size<=2000)(h:pW w l fo gL nf):
 ((Tu.jA (Tu.one (Tu.vals a l))).2=F∧Hid (∀W,Below w.heap.size w W->Calls prog 127 #[.agg #[Q (M ⟨g,0,U⟩),V m,V t,I J mi,Z fo nf gL,I J ln,Z bo nb gJ],V a] W fun e w'=>qH W (Tu.said 400 []) e w')) ∨
 (Tu.jA (Tu.one (Tu.vals a l))=(-1,true)∧Hid (∀W,Below w.heap.size w W->Calls prog 127 #[.agg #[Q (M ⟨g,0,U⟩),V m,V t,I J mi,Z fo nf gL,I J ln,Z bo nb gJ],V a] W fun e w'=>e=Y (.tuple #[I J 0,.bool F])∧Below W.heap.size W w')) ∨
 (∃x:Int,0<=x∧x<1000000000∧Tu.jA (Tu.one (Tu.vals a l))=(x,true)∧Hid (∀W,Below w.heap.size w W->Calls prog 127 #[.agg #[Q (M ⟨g,0,U⟩),V m,V t,I J mi,Z fo nf gL,I J ln,Z bo nb gJ],V a] W fun e w'=>e=Y (.tuple #[I J x,.bool true])∧Below W.heap.size W w')):=by
 by_cases c:(Tu.one (Tu.vals a l)).2=10
 . exact R (A ⟨Tu.EA c,fun W d=>zU a f (h.stay d) c⟩)
 . cases b:(Tu.jA (Tu.one (Tu.vals a l))).2 with
   | false=>exact A ⟨rfl,fun W d=>Et a f (h.stay d) b⟩
   | true =>
     have i:Tu.jA (Tu.one (Tu.vals a l))=((Tu.jA (Tu.one (Tu.vals a l))).1,true):=by rw[<-b]
     refine R (R ⟨_,Tu.Im c i,?_,i,fun W d=>BQ a f (h.stay d) c i⟩);generalize Tu.one (Tu.vals a l)=r at *;unfold Tu.jA at b ⊢;rw[if_neg c] at b ⊢;rw[cZ] at b;exact(Ch.qJ b.1).2
theorem Co (p:wR w0 w S)(h:iH w S g s)(ok:Sr.Ok s)(hF:pW w l fo gL nf)(body:au)(hb:body.length=nb)(hB:iG w bo gJ body)(hnb:nb<=100000)(u:Sp.Up)(uo:aj)(d jh:Nat)(hun:u.bytes.length=d)(UQ:d<=2000)(hs0:-1<=u.size):
 Calls prog 91 #[.agg #[Q (M ⟨g,0,U⟩),V m,V t,I J mi,Z fo nf gL,I J ln,Z bo nb gJ],.agg #[I J u.id,I J u.size,V u.note,Z uo d jh,I J u.sent]] w fun e w'=>lT S w g (Tu.patch s u l body) e w':=by
 have T3:jr iH S w g [K #[Q (M ⟨g,0,U⟩),V m,V t,I J mi,Z fo nf gL,I J ln,Z bo nb gJ] 123 (0,0),K #[I J u.id,I J u.size,V u.note,Z uo d jh,I J u.sent] 101 (0,0),K #[I J 0,Z U 0 0,Z U 0 0] 88 (0,0)] s (fun k=>S k∧k<w.heap.size) (((w.alloc (K #[Q (M ⟨g,0,U⟩),V m,V t,I J mi,Z fo nf gL,I J ln,Z bo nb gJ] 123)).alloc (K #[I J u.id,I J u.size,V u.note,Z uo d jh,I J u.sent] 101)).alloc (K #[I J 0,Z U 0 0,Z U 0 0] 88)):=QS h _ _;have HB3:Hid (Below w.heap.size w (((w.alloc (K #[Q (M ⟨g,0,U⟩),V m,V t,I J mi,Z fo nf gL,I J ln,Z bo nb gJ] 123)).alloc (K #[I J u.id,I J u.size,V u.note,Z uo d jh,I J u.sent] 101)).alloc (K #[I J 0,Z U 0 0,Z U 0 0] 88))):=then_ (then_ ((fI _ w).alloc (aL _) _) ((fI _ _).alloc (aL _) _)) ((fI _ _).alloc (aL _) _);have HC:Hid (∀W s' S',jr iH S w g [K #[Q (M ⟨g,0,U⟩),V m,V t,I J mi,Z fo nf gL,I J ln,Z bo nb gJ] 123 (0,0),K #[I J u.id,I J u.size,V u.note,Z uo d jh,I J u.sent] 101 (0,0),K #[I J 0,Z U 0 0,Z U 0 0] 88 (0,0)] s' S' W->W.cell? ⟨w.heap.size,0,U⟩=M (Q (M ⟨g,0,U⟩))∧W.cell? ⟨w.heap.size,1,U⟩=M (V m)∧W.cell? ⟨w.heap.size,2,U⟩=M (V t)∧W.cell? ⟨w.heap.size,3,U⟩=M (I J mi)∧W.cell? ⟨w.heap.size,4,U⟩=M (Z fo nf gL)∧W.cell? ⟨w.heap.size,5,U⟩=M (I J ln)∧W.cell? ⟨w.heap.size,6,U⟩=M (Z bo nb gJ)):=fun W s' S' hW=>hW.ex;have HU:Hid (∀W s' S',jr iH S w g [K #[Q (M ⟨g,0,U⟩),V m,V t,I J mi,Z fo nf gL,I J ln,Z bo nb gJ] 123 (0,0),K #[I J u.id,I J u.size,V u.note,Z uo d jh,I J u.sent] 101 (0,0),K #[I J 0,Z U 0 0,Z U 0 0] 88 (0,0)] s' S' W->W.cell? ⟨w.heap.size+1,0,U⟩=M (I J u.id)∧W.cell? ⟨w.heap.size+1,1,U⟩=M (I J u.size)∧W.cell? ⟨w.heap.size+1,2,U⟩=M (V u.note)∧W.cell? ⟨w.heap.size+1,3,U⟩=M (Z uo d jh)∧W.cell? ⟨w.heap.size+1,4,U⟩=M (I J u.sent)):=fun W s' S' hW=>hW.up;have H3:=H9 T3;obtain⟨r,z,B,C,D,G,H⟩:=HC.o _ _ _ H3.o;obtain⟨L,N,O,P,T⟩:=HU.o _ _ _ H3.o;have HF:=H9 hF;have qx:=H9 ok;have IC:=H9 p
 have EB:Hid (∀W,Below w.heap.size w W->iG W bo gJ body):=fun W hW=>hB.stay hW;have UM:=H9 hb;have hN1:=yC (g:=g) (m:=m) (t:=t) (mi:=mi) (ln:=ln) (bo:=bo) (gJ:=gJ) (nb:=nb) Tu.vD (by decide) hF;have Zo:=yC (g:=g) (m:=m) (t:=t) (mi:=mi) (ln:=ln) (bo:=bo) (gJ:=gJ) (nb:=nb) Tu.Dv (by decide) hF;rw[Tu.Wu] at hN1;rw[Tu.wJ] at Zo;unfold Tu.vD at hN1;unfold Tu.Dv at Zo;have F4:Hid (∀x W,0<=u.size->x≠u.size->Calls prog 128 #[.agg #[I J u.id,I J u.size,V u.note,Z uo d jh,I J u.sent],I J x,I J ((d:Int)+nb)] W fun e w'=>qH W (Tu.said 400 []) e w'):=fun x W=>(uZ u.id u.size u.sent x ((d:Int)+nb) u.note uo d jh W hs0).1;have HS2:Hid (∀x W,u.size<0->(2000<x∨x<(d:Int)+nb)->Calls prog 128 #[.agg #[I J u.id,I J u.size,V u.note,Z uo d jh,I J u.sent],I J x,I J ((d:Int)+nb)] W fun e w'=>qH W (Tu.said 413 []) e w'):=fun x W=>(uZ u.id u.size u.sent x ((d:Int)+nb) u.note uo d jh W hs0).2.1;have Jf:Hid (∀x W,(0<=u.size∧x=u.size)∨(u.size<0∧¬(2000<x∨x<(d:Int)+nb))->Calls prog 128 #[.agg #[I J u.id,I J u.size,V u.note,Z uo d jh,I J u.sent],I J x,I J ((d:Int)+nb)] W fun e w'=>e=Y (.tuple #[])∧Below W.heap.size W w'):=fun x W=>(uZ u.id u.size u.sent x ((d:Int)+nb) u.note uo d jh W hs0).2.2;clear T3 hF ok p h hB;obtain⟨ai,hR⟩:∃ai,ai=Tu.patch s u l body:=⟨_,rfl⟩;rw[<-hR];unfold Tu.patch at hR;rw[hun,hb] at hR;have c:=H9 hR;clear hR hun hb;go_enter func91,ntmps91;by_cases Zn:(Tu.one (Tu.vals Tu.MU l)).2=9
 . rw[if_pos Zn] at c;have HM:=H9 (Mq (g:=g) (m:=m) (t:=t) (mi:=mi) (ln:=ln) (bo:=bo) (gJ:=gJ) (nb:=nb) (HF.o.stay HB3.o) Zn);clear Zn hN1 Zo;go_wp2_with fail
   refine(HM.o).mono ?_;rintro e w9 f;obtain⟨q,jK,iB,n9,j⟩:=H3.o.fell f;unfold iR at j;subst j;clear f;go_wp2;exact⟨rfl,by rw[c.o];exact q.o⟩
 rw[if_neg Zn] at c;obtain⟨hm1,hm2⟩:=O4 (g:=g) (m:=m) (t:=t) (mi:=mi) (ln:=ln) (bo:=bo) (gJ:=gJ) (nb:=nb) (HF.o.stay HB3.o) Zn;clear Zn;cases hoff:Tu.Dx (Tu.one (Tu.vals Tu.MU l)).1 with
 | false =>
   rw[if_pos hoff] at c;have HM:=H9 (hm1 hoff);clear hm1 hm2 hoff hN1 Zo;go_wp2_with fail
   refine(HM.o).mono ?_;rintro e w9 f;obtain⟨q,jK,iB,n9,j⟩:=H3.o.fell f;unfold iR at j;subst j;clear f;go_wp2;exact⟨rfl,by rw[c.o];exact q.o⟩
 | true =>
 rw[if_neg (by rw[hoff];simp)] at c;have HM:=H9 (hm2 hoff);clear hm1 hm2 hoff;go_wp2_with fail
 refine(HM.o).mono ?_;rintro e w4 ⟨rfl,a⟩;have jJ:=H9 (then_ HB3.o a);have H4:=H9 (H3.o.stay iJ a);clear a H3 HB3 r z B C D G H L N O P T;obtain⟨r,z,B,C,D,G,H⟩:=HC.o _ _ _ H4.o;obtain⟨L,N,O,P,T⟩:=HU.o _ _ _ H4.o;clear HM;rcases hN1 with ⟨hx,HN⟩ | ⟨hx,HN⟩ | ⟨x,hx0,hx1,hx,HN⟩
 . rw[if_pos (A hx)] at c;clear hx Zo;go_wp2_with fail
   refine(HN.o _ jJ.o).mono ?_;rintro e w9 f;obtain⟨q,jK,iB,n9,j⟩:=H4.o.fell f;unfold iR at j;subst j;clear f;go_wp2;exact⟨rfl,by rw[c.o];exact q.o⟩
 . rw[if_pos (R (by rw[hx];decide))] at c;clear hx Zo;go_wp2_with fail
   refine(HN.o _ jJ.o).mono ?_;rintro e w5 ⟨rfl,a⟩;have qX:=H9 (then_ jJ.o a);have H5:=H9 (H4.o.stay iJ a);clear a H4 jJ r z B C D G H L N O P T;obtain⟨r,z,B,C,D,G,H⟩:=HC.o _ _ _ H5.o;obtain⟨L,N,O,P,T⟩:=HU.o _ _ _ H5.o;go_wp2_with fail
   refine(iV 400 400 rfl _).mono ?_;rintro e w9 f;obtain⟨q,jK,iB,n9,j⟩:=H5.o.fell f;unfold iR at j;subst j;clear f;go_wp2;exact⟨rfl,by rw[c.o];exact q.o⟩
 rw[if_neg (by rw[hx];exact fun e=>e.elim (fun e=>by cases e) (fun e=>absurd e (by show ¬x<0;omega)))] at c;rw[hx] at c;simp only at c;clear hx;go_wp2_with fail
 refine(HN.o _ jJ.o).mono ?_;rintro e w5 ⟨rfl,a⟩;have qX:=H9 (then_ jJ.o a);have H5:=H9 (H4.o.stay iJ a);clear a H4 jJ r z B C D G H L N O P T;obtain⟨r,z,B,C,D,G,H⟩:=HC.o _ _ _ H5.o;obtain⟨L,N,O,P,T⟩:=HU.o _ _ _ H5.o;clear HN;go_wp2_with fail
 refine(iQ 400 U 0 0 _).mono ?_;rintro e wq ⟨rfl,a⟩;rw[a];clear a;by_cases hxu:x=(d:Int)
 case neg =>
  rw[if_pos hxu] at c;have tx:(x==(d:Int))=F:=by rw[aR];exact hxu
  clear hxu Zo;go_wp2_with fail
  refine(iV 409 409 rfl _).mono ?_;rintro e w9 f;obtain⟨q,jK,iB,n9,j⟩:=H5.o.fell f;unfold iR at j;subst j;clear f;go_wp2;exact⟨rfl,by rw[c.o];exact q.o⟩
 rw[if_neg (fun e=>e hxu)] at c;subst hxu;clear hx0 hx1;go_wp2_with fail
 refine(iQ 409 U 0 0 _).mono ?_;rintro e wq ⟨rfl,a⟩;rw[a];clear a;rcases Zo with ⟨hy,HN⟩ | ⟨hy,HN⟩ | ⟨y,hy0,hy1,hy,HN⟩
 . rw[if_pos (A hy)] at c;clear hy;go_wp2_with fail
   refine(HN.o _ qX.o).mono ?_;rintro e w9 f;obtain⟨q,jK,iB,n9,j⟩:=H5.o.fell f;unfold iR at j;subst j;clear f;go_wp2;exact⟨rfl,by rw[c.o];exact q.o⟩
 . have hte:Tu.tell u l<->(0<=(-1:Int)∧u.size<0):=by unfold Tu.tell;rw[hy]
   rw[hy] at c;simp only at c;rw[if_neg (fun e=>e.elim (fun e=>by cases e) (fun e=>by have:=e.1;omega)),if_neg (fun e=>by have:=(hte.1 e.1).1;omega)] at c;have HTe:=H9 hte;clear hy hte;go_wp2_with fail
   refine(HN.o _ qX.o).mono ?_;rintro e w6 ⟨rfl,a⟩;have vO:=H9 (then_ qX.o a);have H6:=H9 (H5.o.stay iJ a);clear a H5 qX r z B C D G H L N O P T;obtain⟨r,z,B,C,D,G,H⟩:=HC.o _ _ _ H6.o;obtain⟨L,N,O,P,T⟩:=HU.o _ _ _ H6.o;obtain⟨brm,EU⟩:∃b,(decide ((0:Int)<=(nb:Int)+60)&&decide ((nb:Int)+60<=100000-(s.log.length:Int)))=b:=⟨_,rfl⟩;have eR:brm=F<->100000<s.log.length+(nb+60):=by
    rw[<-EU,dw,bP,bP];omega
   have O5:=H9 (uY H6.o.sh ((nb:Int)+60));rw[EU] at O5;clear EU;go_wp2_with fail
   refine O5.o.mono ?_;rintro e wq ⟨rfl,a⟩;rw[a];clear a;clear O5;cases brm with
   | false =>
     rw[if_pos (eR.1 rfl)] at c;go_wp2_with fail
     refine(iV 507 507 rfl _).mono ?_;rintro e w9 f;obtain⟨q,jK,iB,n9,j⟩:=H6.o.fell f;unfold iR at j;subst j;clear f;go_wp2;exact⟨rfl,by rw[c.o];exact q.o⟩
   | true =>
     rw[if_neg (fun e=>by have:=eR.2 e;cases this)] at c;clear eR;go_wp2_with fail
     refine(iQ 507 U 0 0 _).mono ?_;rintro e wq ⟨rfl,a⟩;rw[a];clear a;have M8:=H9 (qM H6.o.sh qx.o u.id (d:Int) bo nb gJ body (EB.o _ vO.o) UM.o (by omega));have EW:Hid ((Sr.append s u.id (d:Int) body).2≠0->(Sr.append s u.id (d:Int) body).1=s):=fun e=>by unfold Sr.append at e ⊢;exact Tu.oJ e
     have HOa:Hid (Sr.Ok (Sr.append s u.id (d:Int) body).1):=qx.o.append _ _ _;go_wp2_with fail
     refine M8.o.mono ?_;rintro e w20 ⟨rfl,hat,hT⟩;have EX:=H9 (H6.o.did hat hT);clear hat hT M8 H6 vO r z B C D G H L N O P T;generalize Sr.append s u.id (d:Int) body=ra at *;obtain⟨sa,ca⟩:=ra;simp only at c EW EX HOa ⊢;obtain⟨r,z,B,C,D,G,H⟩:=HC.o _ _ _ EX.o;obtain⟨L,N,O,P,T⟩:=HU.o _ _ _ EX.o;by_cases n:ca=0
     . subst n;rw[if_neg (by simp)] at c;clear EW;go_wp2_with fail
       refine(qI _).mono ?_;rintro e wq ⟨rfl,a⟩;rw[a];clear a;rw[if_neg (fun e=>by have:=(HTe.o.1 e).1;omega)] at c;have J8:=H9 (oQ EX.o.sh);go_wp2_with fail
       refine J8.o.mono ?_;rintro e w22 ⟨rfl,wN,qY⟩;have Xv:=H9 (EX.o.turned wN qY);have Cq:=H9 (oN Tu.vD (d+nb) ((d:Int)+nb) (by omega) (by omega) w22 (Xv.o.pow IC.o));unfold Tu.vD at Cq;generalize Tu.dec (d+nb)=db at *;clear wN qY J8 EX r z B C D G H L N O P T;go_wp2_with fail
       refine Cq.o.mono ?_;rintro e Xw ⟨rfl,a⟩;have Xx:=H9 ((Xv.o.stay iJ a).stay iJ ((fI _ Xw).alloc (aL _) (K #[V Tu.vD,V db] 111)));have Bf:=H9 (jY 204 204 rfl [(Tu.vD,db)] (M ⟨Xw.heap.size,0,U⟩) 1 1 _ (jm.made Xw #[V Tu.vD,V db] 1 111 (0,0)) rfl (by decide));unfold Tu.vD at Bf Xx;clear a Cq Xv;go_wp2_with fail
       refine Bf.o.mono ?_;rintro e w9 ⟨jK,iB,n9,rfl,lq,jT,oz⟩;obtain⟨⟨z0,z1,z2,y0,y1,y2⟩,q⟩:=Xx.o.ends iJ (i:=2) rfl (b:=w.heap.size+2) (by first | rfl | omega) (st:=204) (mE:=204) rfl lq (dF (dI _ _) Xx.o.sz) jT oz;clear lq jT oz;go_wp2;generalize (((w9.setCell ⟨w.heap.size+2,0,U⟩ (I J 204)).setCell ⟨w.heap.size+2,1,U⟩ (Z jK n9 iB)).setCell ⟨w.heap.size+2,2,U⟩ (Z U 0 0))=wf at *;obtain⟨q0,q1,q2,q3⟩:=q.o;refine gq (v:=.agg #[I J 204,Z jK n9 iB,Z U 0 0]) (by simp[results,results91,go_sem,q0,q1,q2]) rfl ?_;rw[c.o];exact lT.of q3
     . rw[if_pos n] at c;have hsa:=EW.o n;subst hsa;have HNd:=H9 (sO ca n w20);clear n EW;go_wp2_with fail
       refine(HNd.o).mono ?_;rintro e w9 f;obtain⟨q,jK,iB,n9,j⟩:=EX.o.fell f;unfold iR at j;subst j;clear f;go_wp2;exact⟨rfl,by rw[c.o];exact q.o⟩
 . have hte:Tu.tell u l<->(0<=y∧u.size<0):=by unfold Tu.tell;rw[hy]
   rw[hy] at c;simp only at c;have HTe:=H9 hte;clear hy hte;go_wp2_with fail
   refine(HN.o _ qX.o).mono ?_;rintro e w6 ⟨rfl,a⟩;have vO:=H9 (then_ qX.o a);have H6:=H9 (H5.o.stay iJ a);clear a H5 qX r z B C D G H L N O P T;obtain⟨r,z,B,C,D,G,H⟩:=HC.o _ _ _ H6.o;obtain⟨L,N,O,P,T⟩:=HU.o _ _ _ H6.o;by_cases hsz:u.size<0
   . rw[if_neg (fun e=>e.elim (fun e=>by cases e) (fun e=>by have:=e.2.1;omega))] at c;by_cases hbad:2000<y∨y<(d:Int)+nb
     . rw[if_pos ⟨HTe.o.2 ⟨hy0,hsz⟩,by simpa using hbad⟩] at c;have HQ:=H9 (HS2.o y w6 hsz hbad);go_wp2_with fail
       refine(HQ.o).mono ?_;rintro e w9 f;obtain⟨q,jK,iB,n9,j⟩:=H6.o.fell f;unfold iR at j;subst j;clear f;go_wp2;exact⟨rfl,by rw[c.o];exact q.o⟩
     . rw[if_neg (fun e=>hbad (by simpa using e.2))] at c;have HQ:=H9 (Jf.o y w6 (R ⟨hsz,hbad⟩));clear hbad;go_wp2_with fail
       refine(HQ.o).mono ?_;rintro e w7 ⟨rfl,a⟩;have IK:=H9 (then_ vO.o a);have H7:=H9 (H6.o.stay iJ a);clear a H6 vO r z B C D G H L N O P T;obtain⟨r,z,B,C,D,G,H⟩:=HC.o _ _ _ H7.o;obtain⟨L,N,O,P,T⟩:=HU.o _ _ _ H7.o;clear HQ;obtain⟨brm,EU⟩:∃b,(decide ((0:Int)<=(nb:Int)+60)&&decide ((nb:Int)+60<=100000-(s.log.length:Int)))=b:=⟨_,rfl⟩;have eR:brm=F<->100000<s.log.length+(nb+60):=by
        rw[<-EU,dw,bP,bP];omega
       have O5:=H9 (uY H7.o.sh ((nb:Int)+60));rw[EU] at O5;clear EU;go_wp2_with fail
       refine O5.o.mono ?_;rintro e wq ⟨rfl,a⟩;rw[a];clear a;clear O5;cases brm with
       | false =>
         rw[if_pos (eR.1 rfl)] at c;go_wp2_with fail
         refine(iV 507 507 rfl _).mono ?_;rintro e w9 f;obtain⟨q,jK,iB,n9,j⟩:=H7.o.fell f;unfold iR at j;subst j;clear f;go_wp2;exact⟨rfl,by rw[c.o];exact q.o⟩
       | true =>
         rw[if_neg (fun e=>by have:=eR.2 e;cases this)] at c;clear eR;go_wp2_with fail
         refine(iQ 507 U 0 0 _).mono ?_;rintro e wq ⟨rfl,a⟩;rw[a];clear a;have M8:=H9 (qM H7.o.sh qx.o u.id (d:Int) bo nb gJ body (EB.o _ IK.o) UM.o (by omega));have EW:Hid ((Sr.append s u.id (d:Int) body).2≠0->(Sr.append s u.id (d:Int) body).1=s):=fun e=>by unfold Sr.append at e ⊢;exact Tu.oJ e
         have HOa:Hid (Sr.Ok (Sr.append s u.id (d:Int) body).1):=qx.o.append _ _ _;go_wp2_with fail
         refine M8.o.mono ?_;rintro e w20 ⟨rfl,hat,hT⟩;have EX:=H9 (H7.o.did hat hT);clear hat hT M8 H7 IK r z B C D G H L N O P T;generalize Sr.append s u.id (d:Int) body=ra at *;obtain⟨sa,ca⟩:=ra;simp only at c EW EX HOa ⊢;obtain⟨r,z,B,C,D,G,H⟩:=HC.o _ _ _ EX.o;obtain⟨L,N,O,P,T⟩:=HU.o _ _ _ EX.o;by_cases n:ca=0
         . subst n;rw[if_neg (by simp)] at c;clear EW;go_wp2_with fail
           refine(qI _).mono ?_;rintro e wq ⟨rfl,a⟩;rw[a];clear a;rw[if_pos (HTe.o.2 ⟨hy0,hsz⟩)] at c;have t1:(u.size==-1)=true:=by rw[aS];omega
           have HDc:=H9 (F6 EX.o.sh HOa.o u.id y);go_wp2_with fail
           refine HDc.o.mono ?_;rintro e w21 ⟨rfl,hat,hT⟩;have H21:=H9 (EX.o.did hat hT);clear hat hT HDc EX r z B C D G H L N O P T;generalize Sr.declare sa u.id y=rd at *;obtain⟨sd,cd⟩:=rd;simp only at c H21 ⊢;obtain⟨r,z,B,C,D,G,H⟩:=HC.o _ _ _ H21.o;obtain⟨L,N,O,P,T⟩:=HU.o _ _ _ H21.o;have J8:=H9 (oQ H21.o.sh);go_wp2_with fail
           refine J8.o.mono ?_;rintro e w22 ⟨rfl,wN,qY⟩;have Xv:=H9 (H21.o.turned wN qY);have Cq:=H9 (oN Tu.vD (d+nb) ((d:Int)+nb) (by omega) (by omega) w22 (Xv.o.pow IC.o));unfold Tu.vD at Cq;generalize Tu.dec (d+nb)=db at *;clear wN qY J8 H21 r z B C D G H L N O P T;go_wp2_with fail
           refine Cq.o.mono ?_;rintro e Xw ⟨rfl,a⟩;have Xx:=H9 ((Xv.o.stay iJ a).stay iJ ((fI _ Xw).alloc (aL _) (K #[V Tu.vD,V db] 111)));have Bf:=H9 (jY 204 204 rfl [(Tu.vD,db)] (M ⟨Xw.heap.size,0,U⟩) 1 1 _ (jm.made Xw #[V Tu.vD,V db] 1 111 (0,0)) rfl (by decide));unfold Tu.vD at Bf Xx;clear a Cq Xv;go_wp2_with fail
           refine Bf.o.mono ?_;rintro e w9 ⟨jK,iB,n9,rfl,lq,jT,oz⟩;obtain⟨⟨z0,z1,z2,y0,y1,y2⟩,q⟩:=Xx.o.ends iJ (i:=2) rfl (b:=w.heap.size+2) (by first | rfl | omega) (st:=204) (mE:=204) rfl lq (dF (dI _ _) Xx.o.sz) jT oz;clear lq jT oz;go_wp2;generalize (((w9.setCell ⟨w.heap.size+2,0,U⟩ (I J 204)).setCell ⟨w.heap.size+2,1,U⟩ (Z jK n9 iB)).setCell ⟨w.heap.size+2,2,U⟩ (Z U 0 0))=wf at *;obtain⟨q0,q1,q2,q3⟩:=q.o;refine gq (v:=.agg #[I J 204,Z jK n9 iB,Z U 0 0]) (by simp[results,results91,go_sem,q0,q1,q2]) rfl ?_;rw[c.o];exact lT.of q3
         . rw[if_pos n] at c;have hsa:=EW.o n;subst hsa;have HNd:=H9 (sO ca n w20);clear n EW;go_wp2_with fail
           refine(HNd.o).mono ?_;rintro e w9 f;obtain⟨q,jK,iB,n9,j⟩:=EX.o.fell f;unfold iR at j;subst j;clear f;go_wp2;exact⟨rfl,by rw[c.o];exact q.o⟩
   . have hsz0:0<=u.size:=by omega
     by_cases hne:y=u.size
     . rw[if_neg (fun e=>e.elim (fun e=>by cases e) (fun e=>e.2.2 hne)),if_neg (fun e=>hsz (HTe.o.1 e.1).2)] at c;have HQ:=H9 (Jf.o y w6 (A ⟨hsz0,hne⟩));clear hne;go_wp2_with fail
       refine(HQ.o).mono ?_;rintro e w7 ⟨rfl,a⟩;have IK:=H9 (then_ vO.o a);have H7:=H9 (H6.o.stay iJ a);clear a H6 vO r z B C D G H L N O P T;obtain⟨r,z,B,C,D,G,H⟩:=HC.o _ _ _ H7.o;obtain⟨L,N,O,P,T⟩:=HU.o _ _ _ H7.o;clear HQ;obtain⟨brm,EU⟩:∃b,(decide ((0:Int)<=(nb:Int)+60)&&decide ((nb:Int)+60<=100000-(s.log.length:Int)))=b:=⟨_,rfl⟩;have eR:brm=F<->100000<s.log.length+(nb+60):=by
        rw[<-EU,dw,bP,bP];omega
       have O5:=H9 (uY H7.o.sh ((nb:Int)+60));rw[EU] at O5;clear EU;go_wp2_with fail
       refine O5.o.mono ?_;rintro e wq ⟨rfl,a⟩;rw[a];clear a;clear O5;cases brm with
       | false =>
         rw[if_pos (eR.1 rfl)] at c;go_wp2_with fail
         refine(iV 507 507 rfl _).mono ?_;rintro e w9 f;obtain⟨q,jK,iB,n9,j⟩:=H7.o.fell f;unfold iR at j;subst j;clear f;go_wp2;exact⟨rfl,by rw[c.o];exact q.o⟩
       | true =>
         rw[if_neg (fun e=>by have:=eR.2 e;cases this)] at c;clear eR;go_wp2_with fail
         refine(iQ 507 U 0 0 _).mono ?_;rintro e wq ⟨rfl,a⟩;rw[a];clear a;have M8:=H9 (qM H7.o.sh qx.o u.id (d:Int) bo nb gJ body (EB.o _ IK.o) UM.o (by omega));have EW:Hid ((Sr.append s u.id (d:Int) body).2≠0->(Sr.append s u.id (d:Int) body).1=s):=fun e=>by unfold Sr.append at e ⊢;exact Tu.oJ e
         have HOa:Hid (Sr.Ok (Sr.append s u.id (d:Int) body).1):=qx.o.append _ _ _;go_wp2_with fail
         refine M8.o.mono ?_;rintro e w20 ⟨rfl,hat,hT⟩;have EX:=H9 (H7.o.did hat hT);clear hat hT M8 H7 IK r z B C D G H L N O P T;generalize Sr.append s u.id (d:Int) body=ra at *;obtain⟨sa,ca⟩:=ra;simp only at c EW EX HOa ⊢;obtain⟨r,z,B,C,D,G,H⟩:=HC.o _ _ _ EX.o;obtain⟨L,N,O,P,T⟩:=HU.o _ _ _ EX.o;by_cases n:ca=0
         . subst n;rw[if_neg (by simp)] at c;clear EW;go_wp2_with fail
           refine(qI _).mono ?_;rintro e wq ⟨rfl,a⟩;rw[a];clear a;have t1:(u.size==-1)=F:=by rw[aR];omega
           rw[if_neg (fun e=>by have:=(HTe.o.1 e).2;omega)] at c;have J8:=H9 (oQ EX.o.sh);go_wp2_with fail
           refine J8.o.mono ?_;rintro e w22 ⟨rfl,wN,qY⟩;have Xv:=H9 (EX.o.turned wN qY);have Cq:=H9 (oN Tu.vD (d+nb) ((d:Int)+nb) (by omega) (by omega) w22 (Xv.o.pow IC.o));unfold Tu.vD at Cq;generalize Tu.dec (d+nb)=db at *;clear wN qY J8 EX r z B C D G H L N O P T;go_wp2_with fail
           refine Cq.o.mono ?_;rintro e Xw ⟨rfl,a⟩;have Xx:=H9 ((Xv.o.stay iJ a).stay iJ ((fI _ Xw).alloc (aL _) (K #[V Tu.vD,V db] 111)));have Bf:=H9 (jY 204 204 rfl [(Tu.vD,db)] (M ⟨Xw.heap.size,0,U⟩) 1 1 _ (jm.made Xw #[V Tu.vD,V db] 1 111 (0,0)) rfl (by decide));unfold Tu.vD at Bf Xx;clear a Cq Xv;go_wp2_with fail
           refine Bf.o.mono ?_;rintro e w9 ⟨jK,iB,n9,rfl,lq,jT,oz⟩;obtain⟨⟨z0,z1,z2,y0,y1,y2⟩,q⟩:=Xx.o.ends iJ (i:=2) rfl (b:=w.heap.size+2) (by first | rfl | omega) (st:=204) (mE:=204) rfl lq (dF (dI _ _) Xx.o.sz) jT oz;clear lq jT oz;go_wp2;generalize (((w9.setCell ⟨w.heap.size+2,0,U⟩ (I J 204)).setCell ⟨w.heap.size+2,1,U⟩ (Z jK n9 iB)).setCell ⟨w.heap.size+2,2,U⟩ (Z U 0 0))=wf at *;obtain⟨q0,q1,q2,q3⟩:=q.o;refine gq (v:=.agg #[I J 204,Z jK n9 iB,Z U 0 0]) (by simp[results,results91,go_sem,q0,q1,q2]) rfl ?_;rw[c.o];exact lT.of q3
         . rw[if_pos n] at c;have hsa:=EW.o n;subst hsa;have HNd:=H9 (sO ca n w20);clear n EW;go_wp2_with fail
           refine(HNd.o).mono ?_;rintro e w9 f;obtain⟨q,jK,iB,n9,j⟩:=EX.o.fell f;unfold iR at j;subst j;clear f;go_wp2;exact⟨rfl,by rw[c.o];exact q.o⟩
     . rw[if_pos (R ⟨hy0,hsz0,hne⟩)] at c;have HQ:=H9 (F4.o y w6 hsz0 hne);clear hne;go_wp2_with fail
       refine(HQ.o).mono ?_;rintro e w9 f;obtain⟨q,jK,iB,n9,j⟩:=H6.o.fell f;unfold iR at j;subst j;clear f;go_wp2;exact⟨rfl,by rw[c.o];exact q.o⟩
end
def EY:ObP:=fun _ _ _ _=>True
theorem nI:Ep EY:=⟨fun _ _ _=>trivial,fun _ _=>trivial⟩
def Mr:Nat->Prop:=fun _=>False
theorem zQ.Xy {w w':X}{g:Nat}{s:Sr.Sh}{r:Tu.zi}{e:Ending}(h:zQ EY Mr w g (s,r) e w'):Le w r e w':=by
 obtain⟨⟨b,a,n,c,d,f⟩,_,i⟩:=h;exact⟨b,a,n,c,d,f,i.below (fun _ e=>e.elim) (aL _)⟩
theorem aa7 (w:X)(a:Obj):jr EY Mr w 0 [a] Sr.new (fun k=>Mr k∧k<w.heap.size) (w.alloc a) :=
 (jr.start (O:=EY) (S:=Mr) (g:=0) (s:=Sr.new) nI trivial).box nI rfl (fun _ e=>e.1.elim) _
theorem aeR (w:X)(a b:Obj):jr EY Mr w 0 [a,b] Sr.new (fun k=>Mr k∧k<w.heap.size) ((w.alloc a).alloc b):=by
 have c:(w.alloc a).heap.size=w.heap.size+1:=fV ..;exact(aa7 w a).box nI c (fun _ e=>e.1.elim) _
theorem JM (w:X)(p:ny w):Calls prog 84 #[] w fun e w'=>Le w (Tu.said 204 [(Tu.yc,Tu.jO),(Tu.Vn,Tu.vS),(Tu.Vo,Tu.Vp)]) e w':=by
 have q:=H9 (aa7 w (K #[I J 0,Z U 0 0,Z U 0 0] 88));have d:=H9 ((fI _ w).alloc (aL _) (K #[I J 0,Z U 0 0,Z U 0 0] 88));have l:=H9 (kE Tu.yc Tu.jO (w.alloc (K #[I J 0,Z U 0 0,Z U 0 0] 88)));have G:=H9 p;clear p;unfold Tu.yc Tu.jO at l;go_enter func84,ntmps84;go_wp2_with fail
 refine l.o.mono ?_;rintro e H ⟨rfl,a⟩;have s:=H9 (q.o.stay nI a);have f:=H9 (then_ d.o a);have k:=H9 (oN Tu.Vn 2000 2000 rfl (by decide) H (G.o.stay f.o));rw[show Tu.dec 2000=Tu.vS from by decide +kernel] at k;unfold Tu.Vn Tu.vS at k;clear a l q d;go_wp2_with fail
 refine k.o.mono ?_;rintro e L ⟨rfl,g⟩;have t:=H9 (s.o.stay nI g);have c:=H9 (kE Tu.Vo Tu.Vp L);unfold Tu.Vo Tu.Vp at c;clear g k s f;go_wp2_with fail
 refine c.o.mono ?_;rintro e m ⟨rfl,j⟩;have n:=H9 ((t.o.stay nI j).stay nI ((fI _ m).alloc (aL _) (K #[V Tu.yc,V Tu.jO,V Tu.Vn,V Tu.vS,V Tu.Vo,V Tu.Vp] 111)));have u:=H9 (jY 204 204 rfl [(Tu.yc,Tu.jO),(Tu.Vn,Tu.vS),(Tu.Vo,Tu.Vp)] (M ⟨m.heap.size,0,U⟩) 3 3 _ (jm.made m #[V Tu.yc,V Tu.jO,V Tu.Vn,V Tu.vS,V Tu.Vo,V Tu.Vp] 3 111 (0,0)) rfl (by decide));unfold Tu.yc Tu.jO Tu.Vn Tu.vS Tu.Vo Tu.Vp at u n;clear j c t;go_wp2_with fail
 refine u.o.mono ?_;rintro e N ⟨x,y,z,rfl,B,C,D⟩;obtain⟨⟨z0,z1,z2,y0,y1,y2⟩,O⟩:=n.o.ends nI (i:=0) rfl (b:=w.heap.size) (by first | rfl | omega) (st:=204) (mE:=204) rfl B (dF (dI _ _) n.o.sz) C D;clear B C D;go_wp2;generalize (((N.setCell ⟨w.heap.size,0,U⟩ (I J 204)).setCell ⟨w.heap.size,1,U⟩ (Z x z y)).setCell ⟨w.heap.size,2,U⟩ (Z U 0 0))=wf at *;obtain⟨P,S,T,W⟩:=O.o;refine gq (v:=.agg #[I J 204,Z x z y,Z U 0 0]) (by simp[results,results84,go_sem,P,S,T]) rfl ?_;exact zQ.Xy (r:=Tu.said 204 [(Tu.yc,Tu.jO),(Tu.Vn,Tu.vS),(Tu.Vo,Tu.Vp)]) W
theorem yD (u:Sp.Up)(m:aj)(c n:Nat)(hun:u.bytes.length=c)(hs0:-1<=u.size)(hs1:u.size<=2000)(UQ:c<=2000)(w:X)(hP:ny w):
 Calls prog 90 #[.agg #[I J u.id,I J u.size,V u.note,Z m c n,I J u.sent]] w fun e w'=>Le w (Tu.head u) e w':=by
 have T2:=aeR w (K #[I J u.id,I J u.size,V u.note,Z m c n,I J u.sent] 101) (K #[I J 0,Z U 0 0,Z U 0 0] 88);have HC:Hid (∀W s' S',jr EY Mr w 0 [K #[I J u.id,I J u.size,V u.note,Z m c n,I J u.sent] 101 (0,0),K #[I J 0,Z U 0 0,Z U 0 0] 88 (0,0)] s' S' W->W.cell? ⟨w.heap.size,1,U⟩=M (I J u.size)∧W.cell? ⟨w.heap.size,2,U⟩=M (V u.note)∧W.cell? ⟨w.heap.size,3,U⟩=M (Z m c n)):=fun W s' S' l=>by
  have r:=l.row 0 rfl;exact⟨fJ W _ 1 _ _ _ r,fJ W _ 2 _ _ _ r,fJ W _ 3 _ _ _ r⟩
 obtain⟨N,O,P⟩:=HC.o _ _ _ T2;have S:Hid (Below w.heap.size w ((w.alloc (K #[I J u.id,I J u.size,V u.note,Z m c n,I J u.sent] 101)).alloc (K #[I J 0,Z U 0 0,Z U 0 0] 88))):=then_ ((fI _ w).alloc (aL _) _) ((fI _ _).alloc (aL _) _);have H2:=H9 T2;have IC:=H9 hP;have HUn:=H9 hun;clear T2 hun;obtain⟨T,H,s⟩:∃T:av,Hid (∀W,Below w.heap.size w W->Calls prog 116 #[V Tu.Dv,I J u.size] W fun e w'=>e=Y (.agg #[V Tu.Dv,V T])∧Below W.heap.size W w')∧(0<=u.size->T=Tu.dec u.size.toNat):=by
  by_cases h0:0<=u.size
  . exact⟨_,fun W l=>oN Tu.Dv u.size.toNat u.size (by omega) (by omega) W (hP.stay l),fun _=>rfl⟩
  . have e1:u.size=-1:=by omega
    rw[e1];refine⟨⟨(Lib.itoa (-1)).toArray⟩,fun W l=>?_,fun e=>absurd e (by omega)⟩;refine Ii Tu.Dv _ (-1) W (fun W2 hW2=>?_);refine(Any.strconv_Itoa Tryz.lays171 (-1) (by decide) (by decide) W2 (hP.stay (then_ l hW2))).mono ?_;rintro e w' ⟨he,k,os,rfl⟩;exact⟨he,Lib.below_grow _ W2 (aL _) k os⟩
 have M7:=H9 (H.out _ S.o);unfold Tu.Dv at M7;clear H hP;obtain⟨g,j,d⟩:∃g j:av,(g,j)=(if u.size<0 then (Tu.Dw,Tu.yK) else (Tu.Dv,Tu.dec u.size.toNat)):=⟨_,_,rfl⟩;obtain⟨ai,hR⟩:∃ai,ai=Tu.head u:=⟨_,rfl⟩;rw[<-hR];have HD:Hid (ai=Tu.said 200 ((Tu.vD,Tu.dec c)::(g,j)::(Tu.Nj,Tu.Nk)::(if u.note.size=0 then [] else [(Tu.MV,u.note)]))):=by
  unfold Hid;rw[hR];unfold Tu.head;rw[<-d,HUn.o]
 have J7:Hid ((g,j)=(if u.size<0 then (Tu.Dw,Tu.yK) else (Tu.Dv,Tu.dec u.size.toNat))):=d;have HSv:=H9 s;clear hR d s;go_enter func90,ntmps90;go_wp2_with fail
 refine M7.o.mono ?_;rintro e w3 ⟨rfl,hw3⟩;have H3:=H9 (H2.o.stay nI hw3);have HB3:=H9 (then_ S.o hw3);clear hw3 M7 H2 S N O P;have hb4:=(fI _ w3).alloc (aL _) (K #[V Tu.Dv,V T] 111);have H4:=H9 (H3.o.stay nI hb4);have jJ:=H9 (then_ HB3.o hb4);have t:Hid ((w3.alloc (K #[V Tu.Dv,V T] 111)).heap[w3.heap.size]? = M (K #[V Tu.Dv,V T] 111 (0,0))):=fH w3 _;have HZ4:Hid (w.heap.size+2<=w3.heap.size):=H3.o.sz;obtain⟨N,O,P⟩:=HC.o _ _ _ H4.o;unfold Tu.Dv at H4 jJ t;unfold Tu.Dv at N O P;clear hb4 H3 HB3;go_upto_region 2 with fail
 generalize (w3.alloc (K #[V ⟨#[85,112,108,111,97,100,45,76,101,110,103,116,104]⟩,V T] 111))=w4 at *;generalize w3.heap.size=f at *;obtain⟨bn,hbn⟩:∃b,(u.size==-1)=b:=⟨_,rfl⟩;have y:Hid (bn=true<->u.size<0):=by
  unfold Hid;rw[<-hbn,aS];omega
 go_upto_if 10 with fail
 go_cut [11] (fun _ wd=>jr EY Mr w 0 [K #[I J u.id,I J u.size,V u.note,Z m c n,I J u.sent] 101 (0,0),K #[I J 0,Z U 0 0,Z U 0 0] 88 (0,0)] Sr.new (fun k=>Mr k∧k<w.heap.size) wd∧Below w.heap.size w wd∧wd.heap[f]? = M (K #[V g,V j] 111 (0,0)))
 case first =>
  cases bn with
  | true =>
    have oV:=H9 (kE Tu.Dw Tu.yK w4);have d:=J7.o;rw[if_pos (y.o.1 rfl)] at d;injection d with hp1 hp2;subst hp1;subst hp2;unfold Tu.Dw Tu.yK at oV;go_wp2_with fail
    refine oV.o.mono ?_;rintro e L ⟨rfl,JD⟩;have rZ:=(JD.block f (aK.1 t.o).1).trans t.o;have c0:=fJ L _ 0 _ _ _ rZ;have c1:=fJ L _ 1 _ _ _ rZ
    have y0:=fK L _ 0 _ _ rZ;have y1:=fK L _ 1 _ _ rZ
    simp at c0 c1;have O0:=gZ f [V Tu.Dw,V Tu.yK] 0 L;have HX:Hid (jr EY Mr w 0 [K #[I J u.id,I J u.size,V u.note,Z m c n,I J u.sent] 101 (0,0),K #[I J 0,Z U 0 0,Z U 0 0] 88 (0,0)] Sr.new (fun k=>Mr k∧k<w.heap.size) ((L.setCell ⟨f,0,U⟩ (V Tu.Dw)).setCell ⟨f,1,U⟩ (V Tu.yK))∧Below w.heap.size w ((L.setCell ⟨f,0,U⟩ (V Tu.Dw)).setCell ⟨f,1,U⟩ (V Tu.yK))∧((L.setCell ⟨f,0,U⟩ (V Tu.Dw)).setCell ⟨f,1,U⟩ (V Tu.yK)).heap[f]? = M (K #[V Tu.Dw,V Tu.yK] 111 (0,0))):=by
     have hz:=HZ4.o;have hb:=then_ jJ.o JD;exact⟨(H4.o.stay nI JD).aside nI O0 hz (fun e=>e.1.elim),(hb.setCell (p:=⟨f,0,U⟩) (by show w.heap.size<=f;omega) _).setCell (p:=⟨f,1,U⟩) (by show w.heap.size<=f;omega) _,fM _ _ 1 _ _ (V Tu.yK) (fM _ _ 0 _ _ (V Tu.Dw) rZ)⟩
    unfold Tu.Dw Tu.yK at HX;clear JD rZ O0 oV N O P;go_wp2;go_meet;exact HX.o
  | false =>
    have d:=J7.o;rw[if_neg (fun e=>by have:=y.o.2 e;cases this)] at d;injection d with hp1 hp2;have s:=HSv.o (by
     rcases Int.lt_or_le u.size 0 with e | e
     . have:=y.o.2 e;cases this
     . exact e)
    rw[<-hp2] at s;subst hp1;subst s;go_wp2;go_meet;exact⟨H4.o,jJ.o,t.o⟩
 case rest =>
  obtain⟨hT,hB,hr⟩:=hcut;have HT:=H9 hT;have HB:=H9 hB;have HR:=H9 hr
  have hkl:=(aK.1 hr).1;have M5:Hid (∀W,Below w.heap.size w W->Calls prog 116 #[V Tu.vD,I J (c:Int)] W fun e w'=>e=Y (.agg #[V Tu.vD,V (Tu.dec c)])∧Below W.heap.size W w'):=fun W l=>oN Tu.vD c c rfl (by omega) W (IC.o.stay l);have HFc:Hid (∀W,Calls prog 87 #[V Tu.Nj,V Tu.Nk] W fun e w'=>e=Y (.agg #[V Tu.Nj,V Tu.Nk])∧Below W.heap.size W w'):=fun W=>kE Tu.Nj Tu.Nk W;have z:Hid (∀W,Below wc.heap.size wc W->W.cell? ⟨w.heap.size,3,U⟩=M (Z m c n)∧W.cell? ⟨f,0,U⟩=M (V g)∧W.cell? ⟨f,1,U⟩=M (V j)):=fun W l=>by
   have hr':=(l.block f hkl).trans HR.o;exact⟨(HC.o _ _ _ (HT.o.stay nI l)).2.2,fJ W _ 0 _ _ _ hr',fJ W _ 1 _ _ _ hr'⟩
  generalize Tu.dec c=B at *;have WS:Hid (∀W,Below wc.heap.size wc W->gU (W.alloc (K #[V Tu.vD,V B,V g,V j,V Tu.Nj,V Tu.Nk] 111)) (w.heap.size+2) 111 2 (M ⟨W.heap.size,0,U⟩) 3 3 (gT [(Tu.vD,B),(g,j),(Tu.Nj,Tu.Nk)])∧jr EY Mr w 0 [K #[I J u.id,I J u.size,V u.note,Z m c n,I J u.sent] 101 (0,0),K #[I J 0,Z U 0 0,Z U 0 0] 88 (0,0)] Sr.new (fun k=>Mr k∧k<w.heap.size) (W.alloc (K #[V Tu.vD,V B,V g,V j,V Tu.Nj,V Tu.Nk] 111))∧Below w.heap.size w (W.alloc (K #[V Tu.vD,V B,V g,V j,V Tu.Nj,V Tu.Nk] 111))):=fun W l=>by
   have h1:=HT.o.stay nI l;have x:=(fI _ W).alloc (aL _) (K #[V Tu.vD,V B,V g,V j,V Tu.Nj,V Tu.Nk] 111);exact⟨gD W #[V Tu.vD,V B,V g,V j,V Tu.Nj,V Tu.Nk] 3 h1.sz (by decide) rfl,h1.stay nI x,then_ (then_ HB.o l) x⟩
  unfold Tu.vD at M5;unfold Tu.Nj Tu.Nk at HFc;obtain⟨s0,s1,s2⟩:=z.o _ (fI _ _);have C:Hid (Below wc.heap.size wc wc.drew):=gP _ _;clear hT hB hr hkl H4 jJ t N O P J7 HSv y hbn;go_upto_region 4 with fail
  go_cut [4] (fun v4 wd=>∃(ao:aj) (D:Nat),v4=Z ao 3 D∧gU wd (w.heap.size+2) 111 2 ao D 3 (gT [(Tu.vD,B),(g,j),(Tu.Nj,Tu.Nk)])∧jr EY Mr w 0 [K #[I J u.id,I J u.size,V u.note,Z m c n,I J u.sent] 101 (0,0),K #[I J 0,Z U 0 0,Z U 0 0] 88 (0,0)] Sr.new (fun k=>Mr k∧k<w.heap.size) wd∧Below w.heap.size w wd)
  case first =>
   go_region_held3 (fun W=>W.cell? ⟨w.heap.size,3,U⟩=M (Z m c n)∧W.cell? ⟨f,0,U⟩=M (V g)∧W.cell? ⟨f,1,U⟩=M (V j)) (go_keep) (first
    | (go_at_call 116;refine(M5.o _ (then_ HB.o (by first | with_reducible exact HbF.o | with_reducible exact C.o))).mono ?_;rintro e wC ⟨rfl,hC⟩;have hbC:=then_ (by first | with_reducible exact HbF.o | with_reducible exact C.o) hC;have HbC:=H9 hbC;obtain⟨a0,a1,a2⟩:=z.o _ hbC;clear hC hbC)
    | (go_at_call 87;refine(HFc.o _).mono ?_;rintro e wF ⟨rfl,hF⟩;have hbF:=then_ (by first | with_reducible exact HbC.o | with_reducible exact C.o) hF;have HbF:=H9 hbF;obtain⟨a0,a1,a2⟩:=z.o _ hbF;clear hF hbF))
   all_goals
    go_wp2;go_meet;first
     | exact⟨_,_,rfl,WS.o _ HbF.o⟩
     | exact⟨_,_,rfl,WS.o _ HbC.o⟩
  case rest =>
   obtain⟨ao,D,rfl,hO,hT,hB⟩:=hcut;have H5:=H9 hT;have qX:=H9 hB;have tF:=H9 hO
   clear hO hT hB WS C s0 s1 s2 z M5 HFc HT HB HR;obtain⟨N,O,P⟩:=HC.o _ _ _ H5.o;obtain⟨bm,hbm⟩:∃b,(u.note.toList==([]:au))=b:=⟨_,rfl⟩;have eM:u.note.size=0<->bm=true:=by
    rw[<-hbm,aS,Lib.toList_data];rw[<-dJ,aN];exact Iff.rfl
   cases bm with
   | true =>
     rw[if_pos (eM.2 rfl)] at HD;have Bf:=H9 (jY 200 200 rfl [(Tu.vD,B),(g,j),(Tu.Nj,Tu.Nk)] ao D 3 wc tF.o.nP rfl (by decide));clear eM HC;go_wp2_with fail
     refine Bf.o.mono ?_;rintro e w9 ⟨jK,iB,n9,rfl,lq,jT,oz⟩;obtain⟨⟨z0,z1,z2,y0,y1,y2⟩,HE⟩:=H5.o.ends nI (i:=1) rfl (b:=w.heap.size+1) (by first | rfl | omega) (st:=200) (mE:=200) rfl lq (dF (dI _ _) H5.o.sz) jT oz;clear lq jT oz;go_wp2;generalize (((w9.setCell ⟨w.heap.size+1,0,U⟩ (I J 200)).setCell ⟨w.heap.size+1,1,U⟩ (Z jK n9 iB)).setCell ⟨w.heap.size+1,2,U⟩ (Z U 0 0))=wf at *;obtain⟨q0,q1,q2,q3⟩:=HE.o;refine gq (v:=.agg #[I J 200,Z jK n9 iB,Z U 0 0]) (by simp[results,results90,go_sem,q0,q1,q2]) rfl ?_;rw[HD.o];exact zQ.Xy q3
   | false =>
     rw[if_neg (fun e=>by have:=eM.1 e;cases this)] at HD;obtain⟨i0,hi0,hz0,hz1,hz2⟩:=info_parts rT;have Hi:=H9 hi0;have kJ:=H9 hz0;have kG:=H9 hz1;have kK:=H9 hz2
     have HFm:=H9 (kE Tu.MV u.note wc);unfold Tu.MV at HFm;clear eM HC hi0 hz0 hz1 hz2;go_wp2_with fail
     refine HFm.o.mono ?_;rintro e w6 ⟨rfl,hw6⟩;have x:=(fI _ w6).alloc (aL _) (K #[V Tu.MV,V u.note] 111);have H6:=H9 ((H5.o.stay nI hw6).stay nI x);have yt:=H9 ((tF.o.stay hw6).alloc (K #[V Tu.MV,V u.note] 111));have HZ6:Hid (w.heap.size+2<=(w6.alloc (K #[V Tu.MV,V u.note] 111)).heap.size):=H6.o.sz;have HP6:Hid (∀(G:aj) (Ju:Nat) (w7:X),(w6.alloc (K #[V Tu.MV,V u.note] 111)).grownBy w7 (gK ao)->jr EY Mr w 0 [K #[I J u.id,I J u.size,V u.note,Z m c n,I J u.sent] 101 (0,0),K #[I J 0,Z U 0 0,Z U 0 0] 88 (0,0)] Sr.new (fun k=>Mr k∧k<w.heap.size) w7):=fun G Ju w7 hG=>by
      cases ao with
      | none=>exact H6.o.stay nI ((fI _ _).grown hG (aL _) (fun q e=>by cases e))
      | some a =>
        have hab:=(yt.o.block a rfl).1;exact H6.o.aside nI (b:=a.block) (Turns.iY hG (fun k e=>by injection e with e;exact e.symm)) hab (fun e=>e.1.elim)
     unfold Tu.MV at H6 yt HZ6 HP6;clear hw6 x HFm H5 tF N O P;go_wp2_with (at_builtin;refine gQ rfl (.tmp 22) (.tmp 26) 66 rfl (w.heap.size+2) 111 i0 (.agg #[V ⟨#[]⟩,V ⟨#[]⟩]) 2 32 underlying66 Hi.o kJ.o kG.o kK.o rfl (by decide) rfl yt.o rfl (jm.made w6 _ 1 _ _) rfl (NW _ _) (by decide) (by decide) HZ6.o ?_;intro G Ju w7 hO7 ZU _;have H7:=H9 (HP6.o G Ju w7 ZU);have Bf:=H9 (jY 200 200 rfl [(Tu.vD,B),(g,j),(Tu.Nj,Tu.Nk),(Tu.MV,u.note)] G Ju 4 w7 hO7.nP rfl (by decide));clear hO7 ZU HP6 yt H6 HZ6)
     refine Bf.o.mono ?_;rintro e w9 ⟨jK,iB,n9,rfl,lq,jT,oz⟩;obtain⟨⟨z0,z1,z2,y0,y1,y2⟩,HE⟩:=H7.o.ends nI (i:=1) rfl (b:=w.heap.size+1) (by first | rfl | omega) (st:=200) (mE:=200) rfl lq (dF (dI _ _) H7.o.sz) jT oz;clear lq jT oz;go_wp2;generalize (((w9.setCell ⟨w.heap.size+1,0,U⟩ (I J 200)).setCell ⟨w.heap.size+1,1,U⟩ (Z jK n9 iB)).setCell ⟨w.heap.size+1,2,U⟩ (Z U 0 0))=wf at *;obtain⟨q0,q1,q2,q3⟩:=HE.o;refine gq (v:=.agg #[I J 200,Z jK n9 iB,Z U 0 0]) (by simp[results,results90,go_sem,q0,q1,q2]) rfl ?_;rw[HD.o];exact zQ.Xy q3
section
variable {g:Nat} {m t:av} {mi ln:Int} {l:ak} {fo:aj} {gL nf:Nat} {bo:aj} {gJ nb:Nat} {w w0:X} {S:Nat->Prop} {s:Sr.Sh}
theorem Ms (p:wR w0 w S)(h:iH w S g s)(ok:Sr.Ok s)(hF:pW w l fo gL nf):
 Calls prog 88 #[.agg #[Q (M ⟨g,0,U⟩),V m,V t,I J mi,Z fo nf gL,I J ln,Z bo nb gJ]] w fun e w'=>lT S w g (Tu.post s m l) e w':=by
 have T2:jr iH S w g [K #[Q (M ⟨g,0,U⟩),V m,V t,I J mi,Z fo nf gL,I J ln,Z bo nb gJ] 123 (0,0),K #[I J 0,Z U 0 0,Z U 0 0] 88 (0,0)] s (fun k=>S k∧k<w.heap.size) ((w.alloc (K #[Q (M ⟨g,0,U⟩),V m,V t,I J mi,Z fo nf gL,I J ln,Z bo nb gJ] 123)).alloc (K #[I J 0,Z U 0 0,Z U 0 0] 88)):=QK h _;have B:Hid (Below w.heap.size w ((w.alloc (K #[Q (M ⟨g,0,U⟩),V m,V t,I J mi,Z fo nf gL,I J ln,Z bo nb gJ] 123)).alloc (K #[I J 0,Z U 0 0,Z U 0 0] 88))):=then_ ((fI _ w).alloc (aL _) _) ((fI _ _).alloc (aL _) _);have HC:Hid (∀W s' S',jr iH S w g [K #[Q (M ⟨g,0,U⟩),V m,V t,I J mi,Z fo nf gL,I J ln,Z bo nb gJ] 123 (0,0),K #[I J 0,Z U 0 0,Z U 0 0] 88 (0,0)] s' S' W->W.cell? ⟨w.heap.size,0,U⟩=M (Q (M ⟨g,0,U⟩))∧W.cell? ⟨w.heap.size,1,U⟩=M (V m)∧W.cell? ⟨w.heap.size,2,U⟩=M (V t)∧W.cell? ⟨w.heap.size,3,U⟩=M (I J mi)∧W.cell? ⟨w.heap.size,4,U⟩=M (Z fo nf gL)∧W.cell? ⟨w.heap.size,5,U⟩=M (I J ln)∧W.cell? ⟨w.heap.size,6,U⟩=M (Z bo nb gJ)):=fun W s' S' hW=>hW.ex;obtain⟨C,D,G,H,L,N,O⟩:=HC.o _ _ _ T2;have H2:=H9 T2;have HF:=H9 hF;have qx:=H9 ok;have IC:=H9 p
 clear T2 hF ok p h;obtain⟨ai,hR⟩:∃ai,ai=Tu.post s m l:=⟨_,rfl⟩;rw[<-hR];unfold Tu.post at hR;have c:=H9 hR;clear hR;obtain⟨bp,hbp⟩:∃b,(m.toList==([80,79,83,84]:au))=b:=⟨_,rfl⟩;have eP:m=Tu.GU<->bp=true:=by rw[<-hbp];exact Tu.Yp m Tu.GU _ rfl
 go_enter func88,ntmps88;cases bp with
 | false =>
   rw[if_pos (fun e=>by have:=eP.1 e;cases this)] at c;go_wp2_with fail
   refine(iV 405 405 rfl _).mono ?_;rintro e w9 d;obtain⟨q,P,T,n9,f⟩:=H2.o.fell d;unfold iR at f;subst f;clear d;go_wp2;exact⟨rfl,by rw[c.o];exact q.o⟩
 | true =>
   rw[if_neg (fun e=>e (eP.2 rfl))] at c;clear eP;go_wp2_with fail
   refine(iQ 405 U 0 0 _).mono ?_;rintro e wq ⟨rfl,hw⟩;rw[hw];clear hw;cases j:(Tu.jA (Tu.one (Tu.vals Tu.Du l))).2 with
   | false =>
     rw[if_pos j] at c;have CK:=H9 (Sv (g:=g) (m:=m) (t:=t) (mi:=mi) (ln:=ln) (bo:=bo) (gJ:=gJ) (nb:=nb) (HF.o.stay B.o) j);clear j;go_wp2_with fail
     refine(CK.o).mono ?_;rintro e w9 d;obtain⟨q,P,T,n9,f⟩:=H2.o.fell d;unfold iR at f;subst f;clear d;go_wp2;exact⟨rfl,by rw[c.o];exact q.o⟩
   | true =>
     rw[if_neg (by rw[j];simp)] at c;obtain⟨r,u⟩:=Sw (g:=g) (m:=m) (t:=t) (mi:=mi) (ln:=ln) (bo:=bo) (gJ:=gJ) (nb:=nb) (HF.o.stay B.o) j;clear j;by_cases a:Tu.xO l
     . have CK:=H9 (r a);unfold Tu.xO at a;rw[if_pos a] at c;clear r u a;go_wp2_with fail
       refine(CK.o).mono ?_;rintro e w9 d;obtain⟨q,P,T,n9,f⟩:=H2.o.fell d;unfold iR at f;subst f;clear d;go_wp2;exact⟨rfl,by rw[c.o];exact q.o⟩
     . have CK:=H9 (u a);unfold Tu.xO at a;rw[if_neg a] at c;clear r u a;generalize (Tu.jA (Tu.one (Tu.vals Tu.Du l))).1=n at *;go_wp2_with fail
       refine CK.o.mono ?_;rintro e w3 ⟨rfl,hw3⟩;have HB3:=H9 (then_ B.o hw3);have H3:=H9 (H2.o.stay iJ hw3);clear hw3 CK C D G H L N O;obtain⟨C,D,G,H,L,N,O⟩:=HC.o _ _ _ H3.o;have hzm:=HF.o.val Tu.nUM;generalize y:Tu.one (Tu.vals Tu.nUM l)=rm at *;obtain⟨vm,cm⟩:=rm;simp only at hzm c;by_cases z:cm=9
       . subst z;rw[if_pos rfl] at c;have HT:=H9 (rU (g:=g) (m:=m) (t:=t) (mi:=mi) (ln:=ln) (bo:=bo) (gJ:=gJ) (nb:=nb) Tu.MV (by decide) (HF.o.stay HB3.o) (by rw[Tu.Lh];exact y));unfold Tu.MV at HT;clear y hzm;go_wp2_with fail
         refine(HT.o).mono ?_;rintro e w9 d;obtain⟨q,P,T,n9,f⟩:=H3.o.fell d;unfold iR at f;subst f;clear d;go_wp2;exact⟨rfl,by rw[c.o];exact q.o⟩
       . rw[if_neg z] at c;have HT:=H9 (oO (g:=g) (m:=m) (t:=t) (mi:=mi) (ln:=ln) (bo:=bo) (gJ:=gJ) (nb:=nb) Tu.MV (by decide) (HF.o.stay HB3.o) (by rw[Tu.Lh];exact y) z);unfold Tu.MV at HT;clear y z;generalize decide (cm=0)=cb at *;have hzz:(Sr.Yn vm).size<=1000000:=by rw[Sr.Vf];omega
         rw[show(⟨vm.toArray⟩:av)=Sr.Yn vm from rfl] at HT;have EW:Hid ((Sr.create s n (Sr.Yn vm)).2≠0->(Sr.create s n (Sr.Yn vm)).1=s):=fun e=>by unfold Sr.create at e ⊢;exact Tu.oJ e
         generalize Sr.Yn vm=mb at *;clear hzm;go_wp2_with fail
         refine HT.o.mono ?_;rintro e w4 ⟨rfl,hw4⟩;have jJ:=H9 (then_ HB3.o hw4);have H4:=H9 (H3.o.stay iJ hw4);clear hw4 HT H3 C D G H L N O;obtain⟨C,D,G,H,L,N,O⟩:=HC.o _ _ _ H4.o;have UR:=H9 (Ac H4.o.sh qx.o n mb hzz);clear hzz;go_wp2_with fail
         refine UR.o.mono ?_;rintro e w5 ⟨rfl,hat,hT⟩;have H5:=H9 (H4.o.did hat hT);clear hat hT UR H4 C D G H L N O;generalize Sr.create s n mb=ra at *;obtain⟨sa,ca⟩:=ra;simp only at c EW H5 ⊢;obtain⟨C,D,G,H,L,N,O⟩:=HC.o _ _ _ H5.o;by_cases x:ca=0
         . subst x;rw[if_neg (by simp)] at c;have acI:=qx.o.h.Dm;have acJ:=qx.o.Kl;have Lv:Sr.Dt s 0=s.h.last+1:=by unfold Sr.Dt;rw[if_pos rfl]
           rw[Lv];clear Lv;have HIt:Hid (∀W,ny W->Calls prog 122 #[I J (s.h.last+1)] W fun e w'=>e=Y (V (Tu.dec (s.h.last+1).toNat))∧Below W.heap.size W w'):=fun W hW=>by
            have:=tZ (s.h.last+1).toNat (by omega) W hW;rw[show(((s.h.last+1).toNat:Nat):Int)=s.h.last+1 from by omega] at this;exact this
           have hdz:(Tu.dec (s.h.last+1).toNat).size<=9:=by
            show(Ch.jG 8 _).toArray.size<=9;rw[bL];have:=Ch.jW 8 (s.h.last+1).toNat;omega
           generalize Tu.dec (s.h.last+1).toNat=db at *;generalize s.h.last+1=lid at *;clear acI acJ;go_wp2_with fail
           refine(qI _).mono ?_;rintro e wq ⟨rfl,hw⟩;rw[hw];clear hw;have J8:=H9 (oQ H5.o.sh);go_wp2_with fail
           refine J8.o.mono ?_;rintro e w6 ⟨rfl,wN,qY⟩;have H6:=H9 (H5.o.turned wN qY);clear wN qY J8 H5 C D G H L N O;have HI6:=H9 (HIt.o w6 (H6.o.pow IC.o));go_wp2_with fail
           refine HI6.o.mono ?_;rintro e w7 ⟨rfl,hw7⟩;have H7:=H9 (H6.o.stay iJ hw7);clear hw7 HI6 HIt H6;have oV:=H9 (kE Tu.fLo (Tu.lH++db) w7);unfold Tu.fLo Tu.lH at oV;go_wp2_with fail
           refine oV.o.mono ?_;rintro e w8 ⟨rfl,hw8⟩;have H8:=H9 ((H7.o.stay iJ hw8).stay iJ ((fI _ w8).alloc (aL _) (K #[V Tu.fLo,V (Tu.lH++db)] 111)));have Bf:=H9 (jY 201 201 rfl [(Tu.fLo,Tu.lH++db)] (M ⟨w8.heap.size,0,U⟩) 1 1 _ (jm.made w8 #[V Tu.fLo,V (Tu.lH++db)] 1 111 (0,0)) rfl (by decide));unfold Tu.fLo Tu.lH at Bf H8;clear hw8 oV H7;go_wp2_with fail
           refine Bf.o.mono ?_;rintro e w9 ⟨P,T,n9,rfl,lq,jT,oz⟩;obtain⟨⟨z0,z1,z2,y0,y1,y2⟩,q⟩:=H8.o.ends iJ (i:=1) rfl (b:=w.heap.size+1) (by first | rfl | omega) (st:=201) (mE:=201) rfl lq (dF (dI _ _) H8.o.sz) jT oz;clear lq jT oz;go_wp2;generalize (((w9.setCell ⟨w.heap.size+1,0,U⟩ (I J 201)).setCell ⟨w.heap.size+1,1,U⟩ (Z P n9 T)).setCell ⟨w.heap.size+1,2,U⟩ (Z U 0 0))=wf at *;obtain⟨q0,q1,q2,q3⟩:=q.o;refine gq (v:=.agg #[I J 201,Z P n9 T,Z U 0 0]) (by simp[results,results88,go_sem,q0,q1,q2]) rfl ?_;rw[c.o];exact lT.of q3
         . rw[if_pos x] at c;have hsa:=EW.o x;subst hsa;have HNd:=H9 (sO ca x w5);clear x EW;generalize Sr.Dt sa ca=nn at *;go_wp2_with fail
           refine(HNd.o).mono ?_;rintro e w9 d;obtain⟨q,P,T,n9,f⟩:=H5.o.fell d;unfold iR at f;subst f;clear d;go_wp2;exact⟨rfl,by rw[c.o];exact q.o⟩
end
section
variable {g:Nat} {m t:av} {mi ln:Int} {l:ak} {fo:aj} {gL nf:Nat} {bo:aj} {gJ nb:Nat} {w w0:X} {S:Nat->Prop} {s:Sr.Sh}
theorem jr.pw {O:ObP}{S':Nat->Prop}{bs:List Obj}{W:X}(h:jr O S w g bs s S' W)(p:wR w0 w S):wR w0 W S' :=
 ⟨p.pow, p.vM.trans (h.tu.below (fun k e => p.far k e.1) p.vM.size), fun k e => by
  have b:=p.vM.size;rcases h.ap k e with a | a
  . exact p.far k a.1
  . omega⟩
theorem O6 (p:wR w0 w S)(h:iH w S g s)(ok:Sr.Ok s)(hF:pW w l fo gL nf)(body:au)(hb:body.length=nb)(hB:iG w bo gJ body)(hnb:nb<=100000)(ht:t.size<=100000):
 Calls prog 51 #[.agg #[Q (M ⟨g,0,U⟩),V m,V t,I J mi,Z fo nf gL,I J ln,Z bo nb gJ]] w fun e w'=>lT S w g (Tu.iF s m t l body) e w':=by
 have T2:jr iH S w g [K #[Q (M ⟨g,0,U⟩),V m,V t,I J mi,Z fo nf gL,I J ln,Z bo nb gJ] 123 (0,0),K #[I J 0,Z U 0 0,Z U 0 0] 88 (0,0)] s (fun k=>S k∧k<w.heap.size) ((w.alloc (K #[Q (M ⟨g,0,U⟩),V m,V t,I J mi,Z fo nf gL,I J ln,Z bo nb gJ] 123)).alloc (K #[I J 0,Z U 0 0,Z U 0 0] 88)):=QK h _;have N:Hid (Below w.heap.size w ((w.alloc (K #[Q (M ⟨g,0,U⟩),V m,V t,I J mi,Z fo nf gL,I J ln,Z bo nb gJ] 123)).alloc (K #[I J 0,Z U 0 0,Z U 0 0] 88))):=then_ ((fI _ w).alloc (aL _) _) ((fI _ _).alloc (aL _) _);have HC:Hid (∀W s' S',jr iH S w g [K #[Q (M ⟨g,0,U⟩),V m,V t,I J mi,Z fo nf gL,I J ln,Z bo nb gJ] 123 (0,0),K #[I J 0,Z U 0 0,Z U 0 0] 88 (0,0)] s' S' W->W.cell? ⟨w.heap.size,0,U⟩=M (Q (M ⟨g,0,U⟩))∧W.cell? ⟨w.heap.size,1,U⟩=M (V m)∧W.cell? ⟨w.heap.size,2,U⟩=M (V t)∧W.cell? ⟨w.heap.size,3,U⟩=M (I J mi)∧W.cell? ⟨w.heap.size,4,U⟩=M (Z fo nf gL)∧W.cell? ⟨w.heap.size,5,U⟩=M (I J ln)∧W.cell? ⟨w.heap.size,6,U⟩=M (Z bo nb gJ)):=fun W s' S' hW=>hW.ex;obtain⟨x0,x1,x2,x3,x4,x5,x6⟩:=HC.o _ _ _ T2;have H2:=H9 T2;have HF:=H9 hF;have qx:=H9 ok;have IC:=H9 p;have EB:=H9 hB;have UM:=H9 hb
 clear T2 hF ok p h hB hb;obtain⟨ai,hR⟩:∃ai,ai=Tu.iF s m t l body:=⟨_,rfl⟩;rw[<-hR];unfold Tu.iF at hR;have a:=H9 hR;clear hR;obtain⟨bf,hbf⟩:∃b,(t.toList==([47,102,105,108,101,115]:au))=b:=⟨_,rfl⟩;have eF:t=Tu.sW<->bf=true:=by rw[<-hbf];exact Tu.Yp t Tu.sW _ rfl
 obtain⟨bo_,aiB⟩:∃b,(m.toList==([79,80,84,73,79,78,83]:au))=b:=⟨_,rfl⟩;have eO:m=Tu.abz<->bo_=true:=by rw[<-aiB];exact Tu.Yp m Tu.abz _ rfl
 go_enter func51,ntmps51;cases bf with
 | true =>
   have HTf:=H9 (eF.2 rfl);cases bo_ with
   | true =>
     rw[if_pos ⟨eF.2 rfl,eO.2 rfl⟩] at a;have HOp:Hid (Calls prog 84 #[] ((w.alloc (K #[Q (M ⟨g,0,U⟩),V m,V t,I J mi,Z fo nf gL,I J ln,Z bo nb gJ] 123)).alloc (K #[I J 0,Z U 0 0,Z U 0 0] 88)) fun e w'=>∃(ao:aj) (cap k:Nat),e=Y (.agg #[I J 204,Z ao k cap,Z U 0 0])∧(Tu.said 204 [(Tu.yc,Tu.jO),(Tu.Vn,Tu.vS),(Tu.Vo,Tu.Vp)]).2.length=k∧gU w' ((w.alloc (K #[Q (M ⟨g,0,U⟩),V m,V t,I J mi,Z fo nf gL,I J ln,Z bo nb gJ] 123)).alloc (K #[I J 0,Z U 0 0,Z U 0 0] 88)).heap.size 111 2 ao cap k (gT (Tu.said 204 [(Tu.yc,Tu.jO),(Tu.Vn,Tu.vS),(Tu.Vo,Tu.Vp)]).2)∧Below ((w.alloc (K #[Q (M ⟨g,0,U⟩),V m,V t,I J mi,Z fo nf gL,I J ln,Z bo nb gJ] 123)).alloc (K #[I J 0,Z U 0 0,Z U 0 0] 88)).heap.size ((w.alloc (K #[Q (M ⟨g,0,U⟩),V m,V t,I J mi,Z fo nf gL,I J ln,Z bo nb gJ] 123)).alloc (K #[I J 0,Z U 0 0,Z U 0 0] 88)) w'):=JM _ (H2.o.pow IC.o);clear eF eO;go_wp2_with fail
     refine HOp.o.mono ?_;rintro e y ⟨j,n,q,rfl,f,c,C⟩;obtain⟨⟨z0,z1,z2,y0,y1,y2⟩,d⟩:=H2.o.ends iJ (i:=1) rfl (b:=w.heap.size+1) (by first | rfl | omega) (st:=204) (mE:=204) rfl f (dF (dI _ _) H2.o.sz) c C;clear f c C;go_wp2;generalize (((y.setCell ⟨w.heap.size+1,0,U⟩ (I J 204)).setCell ⟨w.heap.size+1,1,U⟩ (Z j q n)).setCell ⟨w.heap.size+1,2,U⟩ (Z U 0 0))=wf at *;obtain⟨q0,q1,q2,q3⟩:=d.o;refine gq (v:=.agg #[I J 204,Z j q n,Z U 0 0]) (by simp[results,results51,go_sem,q0,q1,q2]) rfl ?_;rw[a.o];exact lT.of q3
   | false =>
     rw[if_neg (fun e=>by have:=eO.1 e.2;cases this)] at a;clear eF eO;have BZ:=HF.o.val Tu.YN;generalize QT:Tu.one (Tu.vals Tu.YN l)=rr at *;obtain⟨vr,cr⟩:=rr;simp only at BZ a;by_cases QU:cr=9
     . subst QU;rw[if_pos rfl] at a;have HT:=H9 (rU (g:=g) (m:=m) (t:=t) (mi:=mi) (ln:=ln) (bo:=bo) (gJ:=gJ) (nb:=nb) Tu.AA (by decide) (HF.o.stay N.o) (by rw[Tu.uh];exact QT));unfold Tu.AA at HT;clear QT BZ;go_wp2_with fail
       refine(HT.o).mono ?_;rintro e y T;obtain⟨d,j,n,q,he⟩:=H2.o.fell T;unfold iR at he;subst he;clear T;go_wp2;exact⟨rfl,by rw[a.o];exact d.o⟩
     rw[if_neg QU] at a;have HT:=H9 (oO (g:=g) (m:=m) (t:=t) (mi:=mi) (ln:=ln) (bo:=bo) (gJ:=gJ) (nb:=nb) Tu.AA (by decide) (HF.o.stay N.o) (by rw[Tu.uh];exact QT) QU);unfold Tu.AA at HT;clear QT BZ QU;generalize decide (cr=0)=cb at *;obtain⟨bv,hbv⟩:∃b,((⟨vr.toArray⟩:av).toList==([49,46,48,46,48]:au))=b:=⟨_,rfl⟩;have eV:vr=Tu.jO.data.toList<->bv=true:=by rw[<-hbv];exact Tu.eqV vr _
     generalize (⟨vr.toArray⟩:av)=vb at *;go_wp2_with fail
     refine(HT.o).mono ?_;rintro e w3 ⟨rfl,r⟩;have HB3:=H9 (then_ N.o r);have H3:=H9 (H2.o.stay iJ r);clear r H2 N x0 x1 x2 x3 x4 x5 x6;obtain⟨x0,x1,x2,x3,x4,x5,x6⟩:=HC.o _ _ _ H3.o;clear HT;have oV:=H9 (kE Tu.yc Tu.jO w3);unfold Tu.yc Tu.jO at oV;go_wp2_with fail
     refine oV.o.mono ?_;rintro e w4 ⟨rfl,r⟩;have x:=(fI _ w4).alloc (aL _) (K #[V Tu.yc,V Tu.jO] 111);have D:=H9 ((H3.o.stay iJ r).stay iJ x);have jJ:=H9 (then_ (then_ HB3.o r) x);have sG:=H9 (zR 412 412 rfl [(Tu.yc,Tu.jO)] (M ⟨w4.heap.size,0,U⟩) 1 1 _ (jm.made w4 #[V Tu.yc,V Tu.jO] 1 111 (0,0)) rfl (by decide));clear r x oV H3 HB3 x0 x1 x2 x3 x4 x5 x6;cases bv with
     | false =>
       rw[if_pos (fun e=>by have:=eV.1 e;cases this)] at a;unfold Tu.yc Tu.jO at sG D;go_wp2_with fail
       refine(sG.o).mono ?_;rintro e y T;obtain⟨d,j,n,q,he⟩:=D.o.fell T;unfold iR at he;subst he;clear T;go_wp2;exact⟨rfl,by rw[a.o];exact d.o⟩
     | true =>
     rw[if_neg (fun e=>e (eV.2 rfl))] at a;clear eV sG;obtain⟨x0,x1,x2,x3,x4,x5,x6⟩:=HC.o _ _ _ D.o;unfold Tu.yc Tu.jO at x0 x1 x2 x3 x4 x5 x6 D jJ;go_wp2_with fail
     refine(iQ 412 _ _ _ _).mono ?_;rintro e wq ⟨rfl,r⟩;rw[r];clear r;generalize (w4.alloc (K #[V ⟨#[84,117,115,45,86,101,114,115,105,111,110]⟩,V ⟨#[49,46,48,46,48]⟩] 111))=w5 at *;rw[if_pos HTf.o] at a;have UR:=H9 (Ms (g:=g) (m:=m) (t:=t) (mi:=mi) (ln:=ln) (bo:=bo) (gJ:=gJ) (nb:=nb) (D.o.pw IC.o) D.o.sh qx.o (HF.o.stay jJ.o));generalize Tu.post s m l=r9 at *;obtain⟨sr,st,lr⟩:=r9;go_wp2_with fail
     refine(UR.o).mono ?_;rintro e y hE;cases hE with
     | @gave j n q _ f c G H =>
       have d:=H9 (D.o.Ma f c G H);unfold iR at d ⊢;clear f c G H;go_wp2;exact⟨rfl,by rw[a.o];exact d.o⟩
     | @ret j n q _ f c G H =>
       have EZ:=D.o.did G H;replace c:=c.mono (dF (dI _ _) D.o.sz);have C:=fI y.heap.size y;obtain⟨⟨z0,z1,z2,y0,y1,y2⟩,d⟩:=EZ.ends iJ (i:=1) rfl (b:=w.heap.size+1) (by first | rfl | omega) (st:=st) (mE:=(st:Int)) rfl f (aL _) c C;clear f c C G H EZ;go_wp2;generalize (((y.setCell ⟨w.heap.size+1,0,U⟩ (I J (st:Int))).setCell ⟨w.heap.size+1,1,U⟩ (Z j q n)).setCell ⟨w.heap.size+1,2,U⟩ (Z U 0 0))=wf at *;obtain⟨q0,q1,q2,q3⟩:=d.o;refine gq (v:=.agg #[I J (st:Int),Z j q n,Z U 0 0]) (by simp[results,results51,go_sem,q0,q1,q2]) rfl ?_;rw[a.o];exact lT.of q3
 | false =>
   have HTf:Hid (¬t=Tu.sW):=fun e=>by have:=eF.1 e;cases this
   rw[if_neg (fun e=>HTf.o e.1)] at a;clear eF eO;cases bo_ with
   | true =>
     have BZ:=HF.o.val Tu.YN;generalize QT:Tu.one (Tu.vals Tu.YN l)=rr at *;obtain⟨vr,cr⟩:=rr;simp only at BZ a;by_cases QU:cr=9
     . subst QU;rw[if_pos rfl] at a;have HT:=H9 (rU (g:=g) (m:=m) (t:=t) (mi:=mi) (ln:=ln) (bo:=bo) (gJ:=gJ) (nb:=nb) Tu.AA (by decide) (HF.o.stay N.o) (by rw[Tu.uh];exact QT));unfold Tu.AA at HT;clear QT BZ;go_wp2_with fail
       refine(HT.o).mono ?_;rintro e y T;obtain⟨d,j,n,q,he⟩:=H2.o.fell T;unfold iR at he;subst he;clear T;go_wp2;exact⟨rfl,by rw[a.o];exact d.o⟩
     rw[if_neg QU] at a;have HT:=H9 (oO (g:=g) (m:=m) (t:=t) (mi:=mi) (ln:=ln) (bo:=bo) (gJ:=gJ) (nb:=nb) Tu.AA (by decide) (HF.o.stay N.o) (by rw[Tu.uh];exact QT) QU);unfold Tu.AA at HT;clear QT BZ QU;generalize decide (cr=0)=cb at *;obtain⟨bv,hbv⟩:∃b,((⟨vr.toArray⟩:av).toList==([49,46,48,46,48]:au))=b:=⟨_,rfl⟩;have eV:vr=Tu.jO.data.toList<->bv=true:=by rw[<-hbv];exact Tu.eqV vr _
     generalize (⟨vr.toArray⟩:av)=vb at *;go_wp2_with fail
     refine(HT.o).mono ?_;rintro e w3 ⟨rfl,r⟩;have HB3:=H9 (then_ N.o r);have H3:=H9 (H2.o.stay iJ r);clear r H2 N x0 x1 x2 x3 x4 x5 x6;obtain⟨x0,x1,x2,x3,x4,x5,x6⟩:=HC.o _ _ _ H3.o;clear HT;have oV:=H9 (kE Tu.yc Tu.jO w3);unfold Tu.yc Tu.jO at oV;go_wp2_with fail
     refine oV.o.mono ?_;rintro e w4 ⟨rfl,r⟩;have x:=(fI _ w4).alloc (aL _) (K #[V Tu.yc,V Tu.jO] 111);have D:=H9 ((H3.o.stay iJ r).stay iJ x);have jJ:=H9 (then_ (then_ HB3.o r) x);have sG:=H9 (zR 412 412 rfl [(Tu.yc,Tu.jO)] (M ⟨w4.heap.size,0,U⟩) 1 1 _ (jm.made w4 #[V Tu.yc,V Tu.jO] 1 111 (0,0)) rfl (by decide));clear r x oV H3 HB3 x0 x1 x2 x3 x4 x5 x6;cases bv with
     | false =>
       rw[if_pos (fun e=>by have:=eV.1 e;cases this)] at a;unfold Tu.yc Tu.jO at sG D;go_wp2_with fail
       refine(sG.o).mono ?_;rintro e y T;obtain⟨d,j,n,q,he⟩:=D.o.fell T;unfold iR at he;subst he;clear T;go_wp2;exact⟨rfl,by rw[a.o];exact d.o⟩
     | true =>
     rw[if_neg (fun e=>e (eV.2 rfl))] at a;clear eV sG;obtain⟨x0,x1,x2,x3,x4,x5,x6⟩:=HC.o _ _ _ D.o;unfold Tu.yc Tu.jO at x0 x1 x2 x3 x4 x5 x6 D jJ;go_wp2_with fail
     refine(iQ 412 _ _ _ _).mono ?_;rintro e wq ⟨rfl,r⟩;rw[r];clear r;generalize (w4.alloc (K #[V ⟨#[84,117,115,45,86,101,114,115,105,111,110]⟩,V ⟨#[49,46,48,46,48]⟩] 111))=w5 at *;rw[if_neg HTf.o] at a;obtain⟨O7,O8⟩:=Ce (g:=g) (m:=m) (t:=t) (mi:=mi) (ln:=ln) (fo:=fo) (gL:=gL) (nf:=nf) (bo:=bo) (gJ:=gJ) (nb:=nb) D.o.sh qx.o (D.o.pow IC.o) ht;cases O9:Tu.AB s.h t with
     | none =>
       rw[O9] at a;simp only at a;have XA:=H9 (O7 O9);clear O7 O8 O9;go_wp2_with fail
       refine(XA.o).mono ?_;rintro e y T;obtain⟨d,j,n,q,he⟩:=D.o.fell T;unfold iR at he;subst he;clear T;go_wp2;exact⟨rfl,by rw[a.o];exact d.o⟩
     | some u =>
     rw[O9] at a;simp only at a;have XA:=H9 (O8 u O9);have hmem:=(Tu.Dy O9).1;have ZV:=qx.o.h.all u hmem;have UQ:=ZV.long;have hs0:=ZV.GK;have hs1:=ZV.Ke
     clear O7 O8 O9 hmem ZV;obtain⟨L,hun⟩:∃L,u.bytes.length=L:=⟨_,rfl⟩;have HUn:=H9 hun;rw[hun] at UQ;rw[hun] at XA;clear hun;go_wp2_with fail
     refine XA.o.mono ?_;rintro e z ⟨O,P,rfl,r⟩;have x:=(fI _ z).alloc (aL _) (K #[I J u.id,I J u.size,V u.note,Z O L P,I J u.sent] 101);have B:=H9 ((D.o.stay iJ r).stay iJ x);have vO:=H9 (then_ (then_ jJ.o r) x);clear r x XA D jJ x0 x1 x2 x3 x4 x5 x6;obtain⟨x0,x1,x2,x3,x4,x5,x6⟩:=HC.o _ _ _ B.o;have v0:(z.alloc (K #[I J u.id,I J u.size,V u.note,Z O L P,I J u.sent] 101)).cell? ⟨z.heap.size,0,U⟩=M (I J u.id):=World.cell?_alloc_mark z _ _ _ 0;have v1:(z.alloc (K #[I J u.id,I J u.size,V u.note,Z O L P,I J u.sent] 101)).cell? ⟨z.heap.size,1,U⟩=M (I J u.size):=World.cell?_alloc_mark z _ _ _ 1;have v2:(z.alloc (K #[I J u.id,I J u.size,V u.note,Z O L P,I J u.sent] 101)).cell? ⟨z.heap.size,2,U⟩=M (V u.note):=World.cell?_alloc_mark z _ _ _ 2;have v3:(z.alloc (K #[I J u.id,I J u.size,V u.note,Z O L P,I J u.sent] 101)).cell? ⟨z.heap.size,3,U⟩=M (Z O L P):=World.cell?_alloc_mark z _ _ _ 3;have v4:(z.alloc (K #[I J u.id,I J u.size,V u.note,Z O L P,I J u.sent] 101)).cell? ⟨z.heap.size,4,U⟩=M (I J u.sent):=World.cell?_alloc_mark z _ _ _ 4;go_upto_region 8 with fail
     generalize (z.alloc (K #[I J u.id,I J u.size,V u.note,Z O L P,I J u.sent] 101))=w7 at *;generalize z.heap.size=k6 at *;unfold Tu.R8 at a;obtain⟨bh,hbh⟩:∃b,(m.toList==([72,69,65,68]:au))=b:=⟨_,rfl⟩;have eH:m=Tu.Kt<->bh=true:=by rw[<-hbh];exact Tu.Yp m Tu.Kt _ rfl
     cases bh with
     | true =>
       rw[if_pos (eH.2 rfl)] at a;have HDs:Hid (Calls prog 90 #[.agg #[I J u.id,I J u.size,V u.note,Z O L P,I J u.sent]] w7 fun e w'=>∃(ao:aj) (cap k:Nat),e=Y (.agg #[I J 200,Z ao k cap,Z U 0 0])∧(Tu.head u).2.length=k∧gU w' w7.heap.size 111 2 ao cap k (gT (Tu.head u).2)∧Below w7.heap.size w7 w'):=yD u O L P HUn.o hs0 hs1 UQ w7 (B.o.pow IC.o);have Pb:Hid (Tu.head u=(200,(Tu.head u).2)):=by unfold Hid;rfl
       rw[Pb.o] at a;clear eH Pb;generalize (Tu.head u).2=lh at *;go_wp2_with fail
       refine HDs.o.mono ?_;rintro e y ⟨j,n,q,rfl,f,c,C⟩;obtain⟨⟨z0,z1,z2,y0,y1,y2⟩,d⟩:=B.o.ends iJ (i:=1) rfl (b:=w.heap.size+1) (by first | rfl | omega) (st:=200) (mE:=200) rfl f (dF (dI _ _) B.o.sz) c C;clear f c C;go_wp2;generalize (((y.setCell ⟨w.heap.size+1,0,U⟩ (I J 200)).setCell ⟨w.heap.size+1,1,U⟩ (Z j q n)).setCell ⟨w.heap.size+1,2,U⟩ (Z U 0 0))=wf at *;obtain⟨q0,q1,q2,q3⟩:=d.o;refine gq (v:=.agg #[I J 200,Z j q n,Z U 0 0]) (by simp[results,results51,go_sem,q0,q1,q2]) rfl ?_;rw[a.o];exact lT.of q3
     | false =>
     rw[if_neg (fun e=>by have:=eH.1 e;cases this)] at a;clear eH;obtain⟨bt,hbt⟩:∃b,(m.toList==([80,65,84,67,72]:au))=b:=⟨_,rfl⟩;have eT:m=Tu.Vl<->bt=true:=by rw[<-hbt];exact Tu.Yp m Tu.Vl _ rfl
     cases bt with
     | true =>
       rw[if_neg (fun e=>by have:=(eT.2 rfl).symm.trans e;revert this;decide),if_pos (eT.2 rfl)] at a;have HEx:=H9 (Co (g:=g) (m:=m) (t:=t) (mi:=mi) (ln:=ln) (bo:=bo) (gJ:=gJ) (nb:=nb) (B.o.pw IC.o) B.o.sh qx.o (HF.o.stay vO.o) body UM.o (EB.o.stay vO.o) hnb u O L P HUn.o UQ hs0);clear eT;generalize Tu.patch s u l body=r9 at *;obtain⟨sr,st,lr⟩:=r9;go_wp2_with fail
       refine(HEx.o).mono ?_;rintro e y hE;cases hE with
       | @gave j n q _ f c G H =>
         have d:=H9 (B.o.Ma f c G H);unfold iR at d ⊢;clear f c G H;go_wp2;exact⟨rfl,by rw[a.o];exact d.o⟩
       | @ret j n q _ f c G H =>
         have EZ:=B.o.did G H;replace c:=c.mono (dF (dI _ _) B.o.sz);have C:=fI y.heap.size y;obtain⟨⟨z0,z1,z2,y0,y1,y2⟩,d⟩:=EZ.ends iJ (i:=1) rfl (b:=w.heap.size+1) (by first | rfl | omega) (st:=st) (mE:=(st:Int)) rfl f (aL _) c C;clear f c C G H EZ;go_wp2;generalize (((y.setCell ⟨w.heap.size+1,0,U⟩ (I J (st:Int))).setCell ⟨w.heap.size+1,1,U⟩ (Z j q n)).setCell ⟨w.heap.size+1,2,U⟩ (Z U 0 0))=wf at *;obtain⟨q0,q1,q2,q3⟩:=d.o;refine gq (v:=.agg #[I J (st:Int),Z j q n,Z U 0 0]) (by simp[results,results51,go_sem,q0,q1,q2]) rfl ?_;rw[a.o];exact lT.of q3
     | false =>
     obtain⟨bd,hbd⟩:∃b,(m.toList==([68,69,76,69,84,69]:au))=b:=⟨_,rfl⟩;have eD:m=Tu.Vk<->bd=true:=by rw[<-hbd];exact Tu.Yp m Tu.Vk _ rfl
     cases bd with
     | true =>
       rw[if_pos (eD.2 rfl)] at a;have HRe:=H9 (Cm (g:=g) (m:=m) (t:=t) (mi:=mi) (ln:=ln) (fo:=fo) (gL:=gL) (nf:=nf) (bo:=bo) (gJ:=gJ) (nb:=nb) B.o.sh qx.o u O L P);clear eT eD;generalize (Sr.sync (Sr.drop s u.id).1,Tu.said 204 [])=r9 at *;obtain⟨sr,st,lr⟩:=r9;go_wp2_with fail
       refine(HRe.o).mono ?_;rintro e y hE;cases hE with
       | @gave j n q _ f c G H =>
         have d:=H9 (B.o.Ma f c G H);unfold iR at d ⊢;clear f c G H;go_wp2;exact⟨rfl,by rw[a.o];exact d.o⟩
       | @ret j n q _ f c G H =>
         have EZ:=B.o.did G H;replace c:=c.mono (dF (dI _ _) B.o.sz);have C:=fI y.heap.size y;obtain⟨⟨z0,z1,z2,y0,y1,y2⟩,d⟩:=EZ.ends iJ (i:=1) rfl (b:=w.heap.size+1) (by first | rfl | omega) (st:=st) (mE:=(st:Int)) rfl f (aL _) c C;clear f c C G H EZ;go_wp2;generalize (((y.setCell ⟨w.heap.size+1,0,U⟩ (I J (st:Int))).setCell ⟨w.heap.size+1,1,U⟩ (Z j q n)).setCell ⟨w.heap.size+1,2,U⟩ (Z U 0 0))=wf at *;obtain⟨q0,q1,q2,q3⟩:=d.o;refine gq (v:=.agg #[I J (st:Int),Z j q n,Z U 0 0]) (by simp[results,results51,go_sem,q0,q1,q2]) rfl ?_;rw[a.o];exact lT.of q3
     | false =>
     rw[if_neg (fun e=>by have:=eD.1 e;cases this),if_neg (fun e=>by have:=eT.1 e;cases this)] at a;have Bf:=H9 (jY 405 405 rfl [] U 0 0 w7 (jm.nil w7) rfl (by decide));clear eT eD;go_wp2_with fail
     refine Bf.o.mono ?_;rintro e y ⟨j,n,q,rfl,f,c,C⟩;obtain⟨⟨z0,z1,z2,y0,y1,y2⟩,d⟩:=B.o.ends iJ (i:=1) rfl (b:=w.heap.size+1) (by first | rfl | omega) (st:=405) (mE:=405) rfl f (dF (dI _ _) B.o.sz) c C;clear f c C;go_wp2;generalize (((y.setCell ⟨w.heap.size+1,0,U⟩ (I J 405)).setCell ⟨w.heap.size+1,1,U⟩ (Z j q n)).setCell ⟨w.heap.size+1,2,U⟩ (Z U 0 0))=wf at *;obtain⟨q0,q1,q2,q3⟩:=d.o;refine gq (v:=.agg #[I J 405,Z j q n,Z U 0 0]) (by simp[results,results51,go_sem,q0,q1,q2]) rfl ?_;rw[a.o];exact lT.of q3
   | false =>
     have BZ:=HF.o.val Tu.YN;generalize QT:Tu.one (Tu.vals Tu.YN l)=rr at *;obtain⟨vr,cr⟩:=rr;simp only at BZ a;by_cases QU:cr=9
     . subst QU;rw[if_pos rfl] at a;have HT:=H9 (rU (g:=g) (m:=m) (t:=t) (mi:=mi) (ln:=ln) (bo:=bo) (gJ:=gJ) (nb:=nb) Tu.AA (by decide) (HF.o.stay N.o) (by rw[Tu.uh];exact QT));unfold Tu.AA at HT;clear QT BZ;go_wp2_with fail
       refine(HT.o).mono ?_;rintro e y T;obtain⟨d,j,n,q,he⟩:=H2.o.fell T;unfold iR at he;subst he;clear T;go_wp2;exact⟨rfl,by rw[a.o];exact d.o⟩
     rw[if_neg QU] at a;have HT:=H9 (oO (g:=g) (m:=m) (t:=t) (mi:=mi) (ln:=ln) (bo:=bo) (gJ:=gJ) (nb:=nb) Tu.AA (by decide) (HF.o.stay N.o) (by rw[Tu.uh];exact QT) QU);unfold Tu.AA at HT;clear QT BZ QU;generalize decide (cr=0)=cb at *;obtain⟨bv,hbv⟩:∃b,((⟨vr.toArray⟩:av).toList==([49,46,48,46,48]:au))=b:=⟨_,rfl⟩;have eV:vr=Tu.jO.data.toList<->bv=true:=by rw[<-hbv];exact Tu.eqV vr _
     generalize (⟨vr.toArray⟩:av)=vb at *;go_wp2_with fail
     refine(HT.o).mono ?_;rintro e w3 ⟨rfl,r⟩;have HB3:=H9 (then_ N.o r);have H3:=H9 (H2.o.stay iJ r);clear r H2 N x0 x1 x2 x3 x4 x5 x6;obtain⟨x0,x1,x2,x3,x4,x5,x6⟩:=HC.o _ _ _ H3.o;clear HT;have oV:=H9 (kE Tu.yc Tu.jO w3);unfold Tu.yc Tu.jO at oV;go_wp2_with fail
     refine oV.o.mono ?_;rintro e w4 ⟨rfl,r⟩;have x:=(fI _ w4).alloc (aL _) (K #[V Tu.yc,V Tu.jO] 111);have D:=H9 ((H3.o.stay iJ r).stay iJ x);have jJ:=H9 (then_ (then_ HB3.o r) x);have sG:=H9 (zR 412 412 rfl [(Tu.yc,Tu.jO)] (M ⟨w4.heap.size,0,U⟩) 1 1 _ (jm.made w4 #[V Tu.yc,V Tu.jO] 1 111 (0,0)) rfl (by decide));clear r x oV H3 HB3 x0 x1 x2 x3 x4 x5 x6;cases bv with
     | false =>
       rw[if_pos (fun e=>by have:=eV.1 e;cases this)] at a;unfold Tu.yc Tu.jO at sG D;go_wp2_with fail
       refine(sG.o).mono ?_;rintro e y T;obtain⟨d,j,n,q,he⟩:=D.o.fell T;unfold iR at he;subst he;clear T;go_wp2;exact⟨rfl,by rw[a.o];exact d.o⟩
     | true =>
     rw[if_neg (fun e=>e (eV.2 rfl))] at a;clear eV sG;obtain⟨x0,x1,x2,x3,x4,x5,x6⟩:=HC.o _ _ _ D.o;unfold Tu.yc Tu.jO at x0 x1 x2 x3 x4 x5 x6 D jJ;go_wp2_with fail
     refine(iQ 412 _ _ _ _).mono ?_;rintro e wq ⟨rfl,r⟩;rw[r];clear r;generalize (w4.alloc (K #[V ⟨#[84,117,115,45,86,101,114,115,105,111,110]⟩,V ⟨#[49,46,48,46,48]⟩] 111))=w5 at *;rw[if_neg HTf.o] at a;obtain⟨O7,O8⟩:=Ce (g:=g) (m:=m) (t:=t) (mi:=mi) (ln:=ln) (fo:=fo) (gL:=gL) (nf:=nf) (bo:=bo) (gJ:=gJ) (nb:=nb) D.o.sh qx.o (D.o.pow IC.o) ht;cases O9:Tu.AB s.h t with
     | none =>
       rw[O9] at a;simp only at a;have XA:=H9 (O7 O9);clear O7 O8 O9;go_wp2_with fail
       refine(XA.o).mono ?_;rintro e y T;obtain⟨d,j,n,q,he⟩:=D.o.fell T;unfold iR at he;subst he;clear T;go_wp2;exact⟨rfl,by rw[a.o];exact d.o⟩
     | some u =>
     rw[O9] at a;simp only at a;have XA:=H9 (O8 u O9);have hmem:=(Tu.Dy O9).1;have ZV:=qx.o.h.all u hmem;have UQ:=ZV.long;have hs0:=ZV.GK;have hs1:=ZV.Ke
     clear O7 O8 O9 hmem ZV;obtain⟨L,hun⟩:∃L,u.bytes.length=L:=⟨_,rfl⟩;have HUn:=H9 hun;rw[hun] at UQ;rw[hun] at XA;clear hun;go_wp2_with fail
     refine XA.o.mono ?_;rintro e z ⟨O,P,rfl,r⟩;have x:=(fI _ z).alloc (aL _) (K #[I J u.id,I J u.size,V u.note,Z O L P,I J u.sent] 101);have B:=H9 ((D.o.stay iJ r).stay iJ x);have vO:=H9 (then_ (then_ jJ.o r) x);clear r x XA D jJ x0 x1 x2 x3 x4 x5 x6;obtain⟨x0,x1,x2,x3,x4,x5,x6⟩:=HC.o _ _ _ B.o;have v0:(z.alloc (K #[I J u.id,I J u.size,V u.note,Z O L P,I J u.sent] 101)).cell? ⟨z.heap.size,0,U⟩=M (I J u.id):=World.cell?_alloc_mark z _ _ _ 0;have v1:(z.alloc (K #[I J u.id,I J u.size,V u.note,Z O L P,I J u.sent] 101)).cell? ⟨z.heap.size,1,U⟩=M (I J u.size):=World.cell?_alloc_mark z _ _ _ 1;have v2:(z.alloc (K #[I J u.id,I J u.size,V u.note,Z O L P,I J u.sent] 101)).cell? ⟨z.heap.size,2,U⟩=M (V u.note):=World.cell?_alloc_mark z _ _ _ 2;have v3:(z.alloc (K #[I J u.id,I J u.size,V u.note,Z O L P,I J u.sent] 101)).cell? ⟨z.heap.size,3,U⟩=M (Z O L P):=World.cell?_alloc_mark z _ _ _ 3;have v4:(z.alloc (K #[I J u.id,I J u.size,V u.note,Z O L P,I J u.sent] 101)).cell? ⟨z.heap.size,4,U⟩=M (I J u.sent):=World.cell?_alloc_mark z _ _ _ 4;go_upto_region 8 with fail
     generalize (z.alloc (K #[I J u.id,I J u.size,V u.note,Z O L P,I J u.sent] 101))=w7 at *;generalize z.heap.size=k6 at *;unfold Tu.R8 at a;obtain⟨bh,hbh⟩:∃b,(m.toList==([72,69,65,68]:au))=b:=⟨_,rfl⟩;have eH:m=Tu.Kt<->bh=true:=by rw[<-hbh];exact Tu.Yp m Tu.Kt _ rfl
     cases bh with
     | true =>
       rw[if_pos (eH.2 rfl)] at a;have HDs:Hid (Calls prog 90 #[.agg #[I J u.id,I J u.size,V u.note,Z O L P,I J u.sent]] w7 fun e w'=>∃(ao:aj) (cap k:Nat),e=Y (.agg #[I J 200,Z ao k cap,Z U 0 0])∧(Tu.head u).2.length=k∧gU w' w7.heap.size 111 2 ao cap k (gT (Tu.head u).2)∧Below w7.heap.size w7 w'):=yD u O L P HUn.o hs0 hs1 UQ w7 (B.o.pow IC.o);have Pb:Hid (Tu.head u=(200,(Tu.head u).2)):=by unfold Hid;rfl
       rw[Pb.o] at a;clear eH Pb;generalize (Tu.head u).2=lh at *;go_wp2_with fail
       refine HDs.o.mono ?_;rintro e y ⟨j,n,q,rfl,f,c,C⟩;obtain⟨⟨z0,z1,z2,y0,y1,y2⟩,d⟩:=B.o.ends iJ (i:=1) rfl (b:=w.heap.size+1) (by first | rfl | omega) (st:=200) (mE:=200) rfl f (dF (dI _ _) B.o.sz) c C;clear f c C;go_wp2;generalize (((y.setCell ⟨w.heap.size+1,0,U⟩ (I J 200)).setCell ⟨w.heap.size+1,1,U⟩ (Z j q n)).setCell ⟨w.heap.size+1,2,U⟩ (Z U 0 0))=wf at *;obtain⟨q0,q1,q2,q3⟩:=d.o;refine gq (v:=.agg #[I J 200,Z j q n,Z U 0 0]) (by simp[results,results51,go_sem,q0,q1,q2]) rfl ?_;rw[a.o];exact lT.of q3
     | false =>
     rw[if_neg (fun e=>by have:=eH.1 e;cases this)] at a;clear eH;obtain⟨bt,hbt⟩:∃b,(m.toList==([80,65,84,67,72]:au))=b:=⟨_,rfl⟩;have eT:m=Tu.Vl<->bt=true:=by rw[<-hbt];exact Tu.Yp m Tu.Vl _ rfl
     cases bt with
     | true =>
       rw[if_neg (fun e=>by have:=(eT.2 rfl).symm.trans e;revert this;decide),if_pos (eT.2 rfl)] at a;have HEx:=H9 (Co (g:=g) (m:=m) (t:=t) (mi:=mi) (ln:=ln) (bo:=bo) (gJ:=gJ) (nb:=nb) (B.o.pw IC.o) B.o.sh qx.o (HF.o.stay vO.o) body UM.o (EB.o.stay vO.o) hnb u O L P HUn.o UQ hs0);clear eT;generalize Tu.patch s u l body=r9 at *;obtain⟨sr,st,lr⟩:=r9;go_wp2_with fail
       refine(HEx.o).mono ?_;rintro e y hE;cases hE with
       | @gave j n q _ f c G H =>
         have d:=H9 (B.o.Ma f c G H);unfold iR at d ⊢;clear f c G H;go_wp2;exact⟨rfl,by rw[a.o];exact d.o⟩
       | @ret j n q _ f c G H =>
         have EZ:=B.o.did G H;replace c:=c.mono (dF (dI _ _) B.o.sz);have C:=fI y.heap.size y;obtain⟨⟨z0,z1,z2,y0,y1,y2⟩,d⟩:=EZ.ends iJ (i:=1) rfl (b:=w.heap.size+1) (by first | rfl | omega) (st:=st) (mE:=(st:Int)) rfl f (aL _) c C;clear f c C G H EZ;go_wp2;generalize (((y.setCell ⟨w.heap.size+1,0,U⟩ (I J (st:Int))).setCell ⟨w.heap.size+1,1,U⟩ (Z j q n)).setCell ⟨w.heap.size+1,2,U⟩ (Z U 0 0))=wf at *;obtain⟨q0,q1,q2,q3⟩:=d.o;refine gq (v:=.agg #[I J (st:Int),Z j q n,Z U 0 0]) (by simp[results,results51,go_sem,q0,q1,q2]) rfl ?_;rw[a.o];exact lT.of q3
     | false =>
     obtain⟨bd,hbd⟩:∃b,(m.toList==([68,69,76,69,84,69]:au))=b:=⟨_,rfl⟩;have eD:m=Tu.Vk<->bd=true:=by rw[<-hbd];exact Tu.Yp m Tu.Vk _ rfl
     cases bd with
     | true =>
       rw[if_pos (eD.2 rfl)] at a;have HRe:=H9 (Cm (g:=g) (m:=m) (t:=t) (mi:=mi) (ln:=ln) (fo:=fo) (gL:=gL) (nf:=nf) (bo:=bo) (gJ:=gJ) (nb:=nb) B.o.sh qx.o u O L P);clear eT eD;generalize (Sr.sync (Sr.drop s u.id).1,Tu.said 204 [])=r9 at *;obtain⟨sr,st,lr⟩:=r9;go_wp2_with fail
       refine(HRe.o).mono ?_;rintro e y hE;cases hE with
       | @gave j n q _ f c G H =>
         have d:=H9 (B.o.Ma f c G H);unfold iR at d ⊢;clear f c G H;go_wp2;exact⟨rfl,by rw[a.o];exact d.o⟩
       | @ret j n q _ f c G H =>
         have EZ:=B.o.did G H;replace c:=c.mono (dF (dI _ _) B.o.sz);have C:=fI y.heap.size y;obtain⟨⟨z0,z1,z2,y0,y1,y2⟩,d⟩:=EZ.ends iJ (i:=1) rfl (b:=w.heap.size+1) (by first | rfl | omega) (st:=st) (mE:=(st:Int)) rfl f (aL _) c C;clear f c C G H EZ;go_wp2;generalize (((y.setCell ⟨w.heap.size+1,0,U⟩ (I J (st:Int))).setCell ⟨w.heap.size+1,1,U⟩ (Z j q n)).setCell ⟨w.heap.size+1,2,U⟩ (Z U 0 0))=wf at *;obtain⟨q0,q1,q2,q3⟩:=d.o;refine gq (v:=.agg #[I J (st:Int),Z j q n,Z U 0 0]) (by simp[results,results51,go_sem,q0,q1,q2]) rfl ?_;rw[a.o];exact lT.of q3
     | false =>
     rw[if_neg (fun e=>by have:=eD.1 e;cases this),if_neg (fun e=>by have:=eT.1 e;cases this)] at a;have Bf:=H9 (jY 405 405 rfl [] U 0 0 w7 (jm.nil w7) rfl (by decide));clear eT eD;go_wp2_with fail
     refine Bf.o.mono ?_;rintro e y ⟨j,n,q,rfl,f,c,C⟩;obtain⟨⟨z0,z1,z2,y0,y1,y2⟩,d⟩:=B.o.ends iJ (i:=1) rfl (b:=w.heap.size+1) (by first | rfl | omega) (st:=405) (mE:=405) rfl f (dF (dI _ _) B.o.sz) c C;clear f c C;go_wp2;generalize (((y.setCell ⟨w.heap.size+1,0,U⟩ (I J 405)).setCell ⟨w.heap.size+1,1,U⟩ (Z j q n)).setCell ⟨w.heap.size+1,2,U⟩ (Z U 0 0))=wf at *;obtain⟨q0,q1,q2,q3⟩:=d.o;refine gq (v:=.agg #[I J 405,Z j q n,Z U 0 0]) (by simp[results,results51,go_sem,q0,q1,q2]) rfl ?_;rw[a.o];exact lT.of q3
end
theorem Bg (b:Nat)(st:Int)(ao:aj)(n cap:Nat)(a:List PanicEntry)(w:X)(d:w.cell? ⟨b,0,U⟩=M (I J 0)∧w.cell? ⟨b,1,U⟩=M (Z U 0 0)∧w.cell? ⟨b,2,U⟩=M (Z U 0 0)∧w.frozen? ⟨b,0,U⟩=F∧w.frozen? ⟨b,1,U⟩=F∧w.frozen? ⟨b,2,U⟩=F):
 CallsD prog 83 #[Q (M ⟨b,0,U⟩)] (.panicking ({ v:=.iface 157 (.agg #[I J st,Z ao n cap,Z U 0 0]),recovered:=F }::a)) w fun e f w' =>
  e=Y (.tuple #[])∧f=.panicking ({ v:=.iface 157 (.agg #[I J st,Z ao n cap,Z U 0 0]),recovered:=true }::a)∧w'=(((w.setCell ⟨b,0,U⟩ (I J st)).setCell ⟨b,1,U⟩ (Z ao n cap)).setCell ⟨b,2,U⟩ (Z U 0 0)):=by
 obtain⟨k,l,m,o,p,q⟩:=d;refine callsD_of_wpS func83 rfl fun c r g=>?_;apply wpS_seq;apply wpS_region;simp[wpOpsS,go_sem,recoverD,g,ntmps83,Exit.thenS];change Code.wpS _ _ _ { tmps:=#[Q (M ⟨b,0,U⟩),.iface 157 (.agg #[I J st,Z ao n cap,Z U 0 0]),.iface 157 (.agg #[I J st,Z ao n cap,Z U 0 0]),undef,undef,undef,undef,undef],defers:=[] } _ _;refine wpS_of_wp ?_;have i:∀w:X,(Instr.typeAssert (.iface 157 (.agg #[I J st,Z ao n cap,Z U 0 0])) 20 157 F).run prog w=.ok (.agg #[I J st,Z ao n cap,Z U 0 0]) w:=fun _=>by kernel_rfl
 have j:∀w:X,(Instr.field 157 (.agg #[I J st,Z ao n cap,Z U 0 0]) 0).run prog w=.ok (.agg #[I J st,Z ao n cap,Z U 0 0]) w:=fun _=>by kernel_rfl
 go_wp2;simp[bodyPostS,results,results83]
theorem Mt (b:Nat)(w:X):
 CallsD prog 83 #[Q (M ⟨b,0,U⟩)] .returning w fun e c w'=>e=Y (.tuple #[])∧c=.returning∧w'=w:=by
 refine callsD_of_wpS func83 rfl fun a f d=>?_;apply wpS_seq;apply wpS_region;simp[wpOpsS,go_sem,recoverD,d,ntmps83,Exit.thenS];change Code.wpS _ _ _ { tmps:=#[Q (M ⟨b,0,U⟩),.nilIface,.nilIface,undef,undef,undef,undef,undef],defers:=[] } _ _;refine wpS_of_wp ?_;go_wp2;cases a;simp_all [bodyPostS,results,results83]
section
variable {g:Nat} {m t:av} {mi ln:Int} {l:ak} {fo:aj} {gL nf:Nat} {bo:aj} {gJ nb:Nat} {w w0:X} {S:Nat->Prop} {s:Sr.Sh}
theorem aiE (h:iH w S g s):jr iH S w g [K #[I J 0,Z U 0 0,Z U 0 0] 88 (0,0)] s (fun k=>S k∧k<w.heap.size) (w.alloc (K #[I J 0,Z U 0 0,Z U 0 0] 88)):=(jr.start iJ h).box iJ rfl (fun _ e=>e.2) _
theorem Mv (p:wR w0 w S)(h:iH w S g s)(ok:Sr.Ok s)(W:pW w l fo gL nf)(body:au)(hb:body.length=nb)(hB:iG w bo gJ body)(D:nb<=100000)(ht:t.size<=100000):
 Calls prog 50 #[.func (.func 51) #[.agg #[Q (M ⟨g,0,U⟩),V m,V t,I J mi,Z fo nf gL,I J ln,Z bo nb gJ]] #[]] w fun e w'=>zQ iH S w g (Tu.iF s m t l body) e w':=by
 have UK:∀(fn:Fn) (first j:Array Value) (w:X),(Instr.makeFunc fn first j).run prog w=.ok (.func fn first j) w:=fun _ _ _ _=>rfl;have x:=aiE h;have c:=(fI _ w).alloc (aL _) (K #[I J 0,Z U 0 0,Z U 0 0] 88);have k:=H9 (O6 (m:=m) (t:=t) (mi:=mi) (ln:=ln) (bo:=bo) (gJ:=gJ) (nb:=nb) (x.pw p) x.sh ok (W.stay c) body hb (hB.stay c) D ht);have y:=H9 x;clear x c p h ok W hb hB;obtain⟨G,hR⟩:∃G,G=Tu.iF s m t l body:=⟨_,rfl⟩;rw[<-hR] at k ⊢;clear hR;obtain⟨sr,st,lr⟩:=G;go_enter_defers func50,ntmps50
 go_wp2_with fail
 refine k.o.mono ?_;rintro e d hE;cases hE with
 | @gave z B C _ n a q r =>
   have u:=y.o.did q r;replace a:=a.mono (dF (dI _ _) y.o.sz);obtain⟨hz,H⟩:=u.ends iJ (i:=0) rfl (b:=w.heap.size) (by first | rfl | omega) (st:=st) (mE:=(st:Int)) rfl n (aL _) a (fI d.heap.size d);have HZ:=H9 hz;clear n a q r u hz;unfold iR;go_wp2;refine leaves_cons (f:=83) (args:=#[Q (M ⟨w.heap.size,0,U⟩)]) (by simp) (by simp[go_sem]) ?_;refine(Bg w.heap.size st z C B [] d HZ.o).mono ?_;rintro e u' L ⟨rfl,rfl,v⟩;rw[v];clear v HZ;generalize (((d.setCell ⟨w.heap.size,0,U⟩ (I J (st:Int))).setCell ⟨w.heap.size,1,U⟩ (Z z C B)).setCell ⟨w.heap.size,2,U⟩ (Z U 0 0))=wf at *;obtain⟨N,O,P,T⟩:=H.o;simp[Leaves,settle,results,results50,go_sem,N,O,P];exact T
 | @ret z B C _ n a q r =>
   have u:=y.o.did q r;replace a:=a.mono (dF (dI _ _) y.o.sz);obtain⟨⟨z0,z1,z2,y0,y1,y2⟩,H⟩:=u.ends iJ (i:=0) rfl (b:=w.heap.size) (by first | rfl | omega) (st:=st) (mE:=(st:Int)) rfl n (aL _) a (fI d.heap.size d);clear n a q r u;go_wp2;refine leaves_cons (f:=83) (args:=#[Q (M ⟨w.heap.size,0,U⟩)]) (by simp) (by simp[go_sem]) ?_;refine(Mt w.heap.size _).mono ?_;rintro e u' L ⟨rfl,rfl,v⟩;rw[v];clear v;generalize (((d.setCell ⟨w.heap.size,0,U⟩ (I J (st:Int))).setCell ⟨w.heap.size,1,U⟩ (Z z C B)).setCell ⟨w.heap.size,2,U⟩ (Z U 0 0))=wf at *;obtain⟨N,O,P,T⟩:=H.o;simp[Leaves,settle,results,results50,go_sem,N,O,P];exact T
theorem ZW (p:wR w0 w S)(h:iH w S g s)(ok:Sr.Ok s)(y:pW w l fo gL nf)(body:au)(z:body.length=nb)(B:iG w bo gJ body)(r:nb<=100000)(ht:t.size<=100000):
 Calls prog 30 #[Q (M ⟨g,0,U⟩),.agg #[V m,V t,I J mi,Z fo nf gL,I J ln],Z bo nb gJ] w fun e w'=>zQ iH S w g (Tu.iF s m t l body) e w':=by
 have UK:∀(C:Fn) (first f:Array Value) (w:X),(Instr.makeFunc C first f).run prog w=.ok (.func C first f) w:=fun _ _ _ _=>rfl;have a:(w.alloc (K #[V m,V t,I J mi,Z fo nf gL,I J ln] 68)).heap.size=w.heap.size+1:=fV ..;have c:((w.alloc (K #[V m,V t,I J mi,Z fo nf gL,I J ln] 68)).alloc (K #[I J 0,Z U 0 0,Z U 0 0] 88)).heap.size=w.heap.size+2:=by rw[fV,a]
 have n:jr iH S w g [K #[V m,V t,I J mi,Z fo nf gL,I J ln] 68 (0,0),K #[I J 0,Z U 0 0,Z U 0 0] 88 (0,0),K #[Q (M ⟨g,0,U⟩),V m,V t,I J mi,Z fo nf gL,I J ln,Z bo nb gJ] 123 (0,0)] s (fun k=>S k∧k<w.heap.size) (((w.alloc (K #[V m,V t,I J mi,Z fo nf gL,I J ln] 68)).alloc (K #[I J 0,Z U 0 0,Z U 0 0] 88)).alloc (K #[Q (M ⟨g,0,U⟩),V m,V t,I J mi,Z fo nf gL,I J ln,Z bo nb gJ] 123)) :=
  (((jr.start iJ h).box iJ rfl (fun k e=>e.2) _).box iJ a (fun k e=>by rw[a];have:=e.2;omega) _).box iJ c (fun k e=>by rw[c];have:=e.2;omega) _
 have d:Below w.heap.size w (((w.alloc (K #[V m,V t,I J mi,Z fo nf gL,I J ln] 68)).alloc (K #[I J 0,Z U 0 0,Z U 0 0] 88)).alloc (K #[Q (M ⟨g,0,U⟩),V m,V t,I J mi,Z fo nf gL,I J ln,Z bo nb gJ] 123)):=then_ (then_ ((fI _ w).alloc (aL _) _) ((fI _ _).alloc (aL _) _)) ((fI _ _).alloc (aL _) _);have j:=H9 (Mv (m:=m) (t:=t) (mi:=mi) (ln:=ln) (bo:=bo) (gJ:=gJ) (nb:=nb) (n.pw p) n.sh ok (y.stay d) body z (B.stay d) r ht);have D:=H9 n;clear n d p h ok y z B a c;obtain⟨u,G⟩:∃u,u=Tu.iF s m t l body:=⟨_,rfl⟩;rw[<-G] at j ⊢;clear G;obtain⟨sr,st,lr⟩:=u;go_enter func30,ntmps30;go_wp2_with fail
 refine j.o.mono ?_;rintro e x ⟨⟨H,L,N,rfl,O,q⟩,P,T⟩;have W:=D.o.did P T;replace q:=q.mono (dF (dI _ _) D.o.sz);obtain⟨⟨z0,z1,z2,y0,y1,y2⟩,HE⟩:=W.ends iJ (i:=1) rfl (b:=w.heap.size+1) (by first | rfl | omega) (st:=st) (mE:=(st:Int)) rfl O (aL _) q (fI x.heap.size x);clear O q P T W;go_wp2;generalize (((x.setCell ⟨w.heap.size+1,0,U⟩ (I J (st:Int))).setCell ⟨w.heap.size+1,1,U⟩ (Z H N L)).setCell ⟨w.heap.size+1,2,U⟩ (Z U 0 0))=wf at *;obtain⟨q0,q1,q2,q3⟩:=HE.o;refine gq (v:=.agg #[I J (st:Int),Z H N L,Z U 0 0]) (by simp[results,results30,go_sem,q0,q1,q2]) rfl ?_;exact q3
end
end Go.Proofs.YtjmndjmhjleabaaGreatDoor