/- Small texts, one behind the other: JrB, JrF, JlA, ShA, TuN, JrD, JrG, JrH. -/
import Derived.Deep.RegionWith
import Derived.Test.YthhklgjjnaeaoaaGreatDoorPk22
import Derived.Test.YthhklgjjnaeaoaaGreatDoorPk33
open Go.Value renaming int->I,slice->Z,pointer->Q
open Go.IntKind renaming i64->J
open Go.Obj renaming cells->K
open Go.Ending renaming returned->Y
open Option renaming none->U,some->M
open Bool renaming false->F
open Go renaming World->X
set_option maxHeartbeats 2000000
set_option maxRecDepth 100000
open Go.Proofs.Tryz
namespace Go.Proofs.YthhklgjjnaeaoaaGreatDoor
open Go.RowKit
theorem zh (n:Int)(w:X):Calls prog 282 #[I J n] w fun e w'=>e=Y (.bool (decide (-1<=n)&&decide (n<=1073741823)))∧w'=w:=by
 by_cases a:-1<=n
 . by_cases b:n<=1073741823
   . go_enter func282,ntmps282;go_wp2;go_ret;exact⟨iN (by simp[a,b]),rfl⟩
   . have c:Hid (decide (n<=1073741823)=F):=aJ b;go_enter func282,ntmps282;go_wp2;go_ret;exact⟨iN (by rw[c.o];try simp),rfl⟩
 . have d:Hid (decide (-1<=n)=F):=aJ a;go_enter func282,ntmps282;go_wp2;go_ret;exact⟨iN (by rw[d.o];rfl),rfl⟩
theorem Zd (e:Jn.E):Jn.fits e=(decide (1<=e.kind)&&(decide (e.kind<=6)&&((decide (-1<=e.id)&&decide (e.id<=1073741823))&&((decide (-1<=e.n)&&decide (e.n<=1073741823))&&decide (e.text.length<=1048575))))):=by
 simp only[Jn.fits,Bool.and_assoc]
theorem Gm (x:Jn.E)(q:ak)(j r:Nat)(v:x.text.length=j)(w:X):Calls prog 249 #[.agg #[I J x.kind,I J x.id,I J x.n,Z q j r]] w fun e w'=>e=Y (.bool (Jn.fits x))∧Below w.heap.size w w':=by
 have d:=H9 (Zd x);have l:Hid (Below w.heap.size w (w.alloc (K #[I J x.kind,I J x.id,I J x.n,Z q j r] 226))):=(eY _ w).alloc (aM _) _;have c:=H9 (fun W=>zh x.id W);have g:=H9 (fun W=>zh x.n W);rw[v] at d;generalize Jn.fits x=f at *;generalize x.kind=k at *;generalize x.id=i at *;generalize x.n=n at *;generalize (decide (-1<=i)&&decide (i<=1073741823))=y at *;generalize (decide (-1<=n)&&decide (n<=1073741823))=z at *;by_cases s:1<=k
 . by_cases t:k<=6
   . cases y with
     | true =>
       cases z with
       | true =>
         by_cases u:j<=1048575
         . have p:(j:Int)<=1048575:=by omega
           go_enter func249,ntmps249;go_wp2_with (first
            | (go_at_call_of 282 i;refine(c.o _).mono ?_;rintro e m ⟨rfl,a⟩;rw[a];clear a)
            | (go_at_call_of 282 n;refine(g.o _).mono ?_;rintro e m ⟨rfl,a⟩;rw[a];clear a))
           go_ret;exact⟨iN (by rw[d.o];simp[s,t,u]),l.o⟩
         . have p:¬(j:Int)<=1048575:=by omega
           have b:f=F:=by have:=d.o;rw[aJ u] at this;simpa using this
           go_enter func249,ntmps249;go_wp2_with (first
            | (go_at_call_of 282 i;refine(c.o _).mono ?_;rintro e m ⟨rfl,a⟩;rw[a];clear a)
            | (go_at_call_of 282 n;refine(g.o _).mono ?_;rintro e m ⟨rfl,a⟩;rw[a];clear a))
           go_ret;exact⟨by rw[b];simp;omega,l.o⟩
       | false =>
         go_enter func249,ntmps249;go_wp2_with (first
          | (go_at_call_of 282 i;refine(c.o _).mono ?_;rintro e m ⟨rfl,a⟩;rw[a];clear a)
          | (go_at_call_of 282 n;refine(g.o _).mono ?_;rintro e m ⟨rfl,a⟩;rw[a];clear a))
         go_ret;exact⟨iN (by rw[d.o];simp),l.o⟩
     | false =>
       go_enter func249,ntmps249;go_wp2_with (go_at_call 282;refine(c.o _).mono ?_;rintro e m ⟨rfl,a⟩;rw[a];clear a)
       go_ret;exact⟨iN (by rw[d.o];simp),l.o⟩
   . have b:Hid (f=F):=by unfold Hid;have:=d.o;rw[aJ t] at this;simpa using this
     go_enter func249,ntmps249;go_wp2;go_ret;exact⟨iN b.o.symm,l.o⟩
 . have b:Hid (f=F):=by unfold Hid;have:=d.o;rw[aJ s] at this;simpa using this
   go_enter func249,ntmps249;go_wp2;go_ret;exact⟨iN b.o.symm,l.o⟩
inductive zi (b:av):Nat->av->Int->Int->Int->Prop
 | zero:zi b 0 b 0 0 0
 | one {x s}:Jn.rn b=M (x,s)->zi b 1 (b.drop s) x 0 0
 | two {x s y t}:Jn.rn b=M (x,s)->Jn.rn (b.drop s)=M (y,t)->zi b 2 ((b.drop s).drop t) x y 0
 | three {x s y t z u}:Jn.rn b=M (x,s)->Jn.rn (b.drop s)=M (y,t)->Jn.rn ((b.drop s).drop t)=M (z,u)->zi b 3 (((b.drop s).drop t).drop u) x y z
theorem zi.le {b a:av}{i:Nat}{x y z:Int}(h:zi b i a x y z):a.length<=b.length:=by
 cases h <;> (try simp only[bT]) <;> omega
theorem zi.stop {b d:av}{i:Nat}{x y z:Int}(h:zi b i d x y z)(f:i<3)(a:Jn.rn d=U):Jn.inner b=U:=by
 cases h with
 | zero=>unfold Jn.inner;rw[a]
 | one c=>unfold Jn.inner;rw[c];simp only;rw[a]
 | two c e=>unfold Jn.inner;rw[c];simp only;rw[e];simp only;rw[a]
 | three=>omega
theorem zi.end_ {b a:av}{x y z:Int}(h:zi b 3 a x y z):Jn.inner b=if Jn.fits ⟨x,y,z,a⟩=true then M ⟨x,y,z,a⟩ else U:=by
 cases h with
 | three c d e=>unfold Jn.inner;rw[c];simp only;rw[d];simp only;rw[e]
def abt (i:Nat)(v x y z:Int):Int×Int×Int:=match i with
 | 0=>(v,y,z)
 | 1=>(x,v,z)
 | _=>(x,y,v)
theorem zi.step {b a:av}{i:Nat}{x y z v:Int}{s:Nat}(h:zi b i a x y z)(f:i<3)(c:Jn.rn a=M (v,s)):zi b (i+1) (a.drop s) (abt i v x y z).1 (abt i v x y z).2.1 (abt i v x y z).2.2:=by
 cases h with
 | zero=>exact .one c
 | one d=>exact .two d c
 | two d e=>exact .three d e c
 | three=>omega
theorem DN {b:av}(h:Jn.rn b=U):Bf b=(0,0):=by unfold Bf;rw[h]
theorem DR {b:av}{x:Int}{s:Nat}(h:Jn.rn b=M (x,s)):Bf b=(x,s):=by unfold Bf;rw[h]
structure vN (w:X)(x y z:Int)(W:X):Prop where
 res:W.heap[w.heap.size]? = M (K #[I J 0,I J 0,I J 0,Z U 0 0] 226 (0,0))
 nums:W.heap[w.heap.size+1]? = M (K #[I J x,I J y,I J z] 235 (0,0))
 below:Below w.heap.size w W
 size:W.heap.size=w.heap.size+2
inductive DT (w:X)(b:av):Ending->X->Prop
 | no {w'}:Jn.inner b=U->Below w.heap.size w w'->DT w b (Y (.tuple #[.agg #[I J 0,I J 0,I J 0,Z U 0 0],.bool F])) w'
 | yes {w'} (e:Jn.E) (ta:ak) (tc:Nat):Jn.inner b=M e->jI w' (fun k=>w.heap.size<=k) ta tc e.text->Below w.heap.size w w'->DT w b (Y (.tuple #[.agg #[I J e.kind,I J e.id,I J e.n,Z ta e.text.length tc],.bool true])) w'
theorem vO {W:X}{g t:Nat}{f i j l:Value}(h:W.heap[g]? = M (K #[f,i,j,l] t (0,0)))(a b c d:Value):
 ((((W.setCell ⟨g,0,U⟩ a).setCell ⟨g,1,U⟩ b).setCell ⟨g,2,U⟩ c).setCell ⟨g,3,U⟩ d).heap[g]? = M (K #[a,b,c,d] t (0,0))∧Turns (fun k=>k=g) W ((((W.setCell ⟨g,0,U⟩ a).setCell ⟨g,1,U⟩ b).setCell ⟨g,2,U⟩ c).setCell ⟨g,3,U⟩ d):=by
 have m:=fu W g 0 _ _ a h;have n:=fu _ g 1 _ _ b m;have o:=fu _ g 2 _ _ c n;have p:=fu _ g 3 _ _ d o;have q:=Turns.setCell (fun k=>k=g) W ⟨g,0,U⟩ a rfl;have r:=Turns.setCell (fun k=>k=g) (W.setCell ⟨g,0,U⟩ a) ⟨g,1,U⟩ b rfl;have s:=Turns.setCell (fun k=>k=g) ((W.setCell ⟨g,0,U⟩ a).setCell ⟨g,1,U⟩ b) ⟨g,2,U⟩ c rfl;have u:=Turns.setCell (fun k=>k=g) (((W.setCell ⟨g,0,U⟩ a).setCell ⟨g,1,U⟩ b).setCell ⟨g,2,U⟩ c) ⟨g,3,U⟩ d rfl;exact⟨p,((q.trans r (fun _ e _=>e)).trans s (fun _ e _=>e)).trans u (fun _ e _=>e)⟩
theorem uq {W:X}{g t:Nat}{a b c d:Value}(h:W.heap[g]? = M (K #[a,b,c,d] t (0,0))):(W.cell? ⟨g,0,U⟩=M a∧W.cell? ⟨g,1,U⟩=M b∧W.cell? ⟨g,2,U⟩=M c∧W.cell? ⟨g,3,U⟩=M d)∧(W.frozen? ⟨g,0,U⟩=F∧W.frozen? ⟨g,1,U⟩=F∧W.frozen? ⟨g,2,U⟩=F∧W.frozen? ⟨g,3,U⟩=F) :=
 ⟨⟨eZ W g 0 _ _ _ h,eZ W g 1 _ _ _ h,eZ W g 2 _ _ _ h,eZ W g 3 _ _ _ h⟩,fq W g 0 _ _ h,fq W g 1 _ _ h,fq W g 2 _ _ h,fq W g 3 _ _ h⟩
theorem Wi {W:X}{g t:Nat}{a b c:Value}(h:W.heap[g]? = M (K #[a,b,c] t (0,0))):(W.cell? ⟨g,0,U⟩=M a∧W.cell? ⟨g,1,U⟩=M b∧W.cell? ⟨g,2,U⟩=M c)∧(W.frozen? ⟨g,0,U⟩=F∧W.frozen? ⟨g,1,U⟩=F∧W.frozen? ⟨g,2,U⟩=F) :=
 ⟨⟨eZ W g 0 _ _ _ h,eZ W g 1 _ _ _ h,eZ W g 2 _ _ _ h⟩,fq W g 0 _ _ h,fq W g 1 _ _ h,fq W g 2 _ _ h⟩
theorem vN.af2 {w W:X}{x y z:Int}(h:vN w x y z W)(v:Int):vN w v y z (W.setCell ⟨w.heap.size+1,0,U⟩ (I J v)).drew:=by
 have b:=h.size;have a:Turns (fun k=>k=w.heap.size+1) W (W.setCell ⟨w.heap.size+1,0,U⟩ (I J v)):=Turns.setCell _ W _ _ rfl;exact⟨a.row h.res (by omega),fu W _ 0 _ _ _ h.nums,(h.below.trans (a.below (fun k e=>by omega) (by omega))).trans (gy _ _),by show(W.setCell _ _).heap.size=_;simp[World.setCell,b]⟩
theorem vN.abu {w W:X}{x y z:Int}(h:vN w x y z W)(v:Int):vN w x v z (W.setCell ⟨w.heap.size+1,1,U⟩ (I J v)).drew:=by
 have b:=h.size;have a:Turns (fun k=>k=w.heap.size+1) W (W.setCell ⟨w.heap.size+1,1,U⟩ (I J v)):=Turns.setCell _ W _ _ rfl;exact⟨a.row h.res (by omega),fu W _ 1 _ _ _ h.nums,(h.below.trans (a.below (fun k e=>by omega) (by omega))).trans (gy _ _),by show(W.setCell _ _).heap.size=_;simp[World.setCell,b]⟩
theorem vN.Ns {w W:X}{x y z:Int}(h:vN w x y z W)(v:Int):vN w x y v (W.setCell ⟨w.heap.size+1,2,U⟩ (I J v)).drew:=by
 have b:=h.size;have a:Turns (fun k=>k=w.heap.size+1) W (W.setCell ⟨w.heap.size+1,2,U⟩ (I J v)):=Turns.setCell _ W _ _ rfl;exact⟨a.row h.res (by omega),fu W _ 2 _ _ _ h.nums,(h.below.trans (a.below (fun k e=>by omega) (by omega))).trans (gy _ _),by show(W.setCell _ _).heap.size=_;simp[World.setCell,b]⟩
theorem E8 (b:av)(ao:ak)(cap n:Nat)(w:X)(hB:gN w ao cap b)(hn:b.length=n)(hN:n<=1000000000):
 Calls prog 211 #[Z ao n cap] w fun e w'=>DT w b e w':=by
 have HI:Hid (∀W,Below w.heap.size w W->gN W ao cap b):=fun W hW=>hB.stay hW;have Zg:Hid (0<b.length->∀k,fV ao=M k->k<w.heap.size):=fun h0 k e=>by
  obtain⟨d,g,rfl,hc⟩:=hB.lit h0;injection e with e;subst e;exact fH w _ (hc 0 h0)
 clear hB;go_enter func211,ntmps211;go_wp2;have HM0:Hid (vN w 0 0 0 ((w.alloc (K #[I J 0,I J 0,I J 0,Z U 0 0] 226)).alloc (K #[I J 0,I J 0,I J 0] 235))):=by
  refine⟨?_,?_,((eY _ w).alloc (aM _) _).alloc (by simp) _,by simp⟩
  . rw[Below.heap_alloc _ _ _ (by simp)];exact eX w _
  . have:=eX (w.alloc (K #[I J 0,I J 0,I J 0,Z U 0 0] 226)) (K #[I J 0,I J 0,I J 0] 235);rw[fG] at this;exact this
 generalize ((w.alloc (K #[I J 0,I J 0,I J 0,Z U 0 0] 226)).alloc (K #[I J 0,I J 0,I J 0] 235))=w1 at *;go_loopw [0,9] (fun vb vi wr=>∃(i f c:Nat) (u:ak) (j:av) (x y z:Int),i<=3∧vb=Z u f c∧vi=I J i∧zi b i j x y z∧gN wr u c j∧j.length=f∧fV u=fV ao∧vN w x y z wr) (fun _ vi _=>3-(intOf vi).toNat)
 case atStart=>exact⟨0,n,cap,ao,b,0,0,0,by omega,rfl,rfl,.zero,HI.o _ HM0.o.below,hn,rfl,HM0.o⟩
 case round =>
  obtain⟨i,f,c,u,j,x,y,z,hi,rfl,rfl,hA,hBi,t,hbl,hM⟩:=hrel;have HA:=H9 hA;have D:=H9 hBi;have HM:=H9 hM
  have hle:=hA.le;have HR:=H9 (vM j u c f wr hBi t (by omega));have hci:=hBi.1;obtain⟨⟨c0,c1,c2,c3⟩,f0,f1,f2,f3⟩:=uq hM.res;obtain⟨⟨d0,d1,d2⟩,e0,e1,e2⟩:=Wi hM.nums;clear hA hBi hM;by_cases hlt:i<3
  . cases hr:Jn.rn j with
    | none =>
      rw[DN hr] at HR;have HX:=H9 (HA.o.stop hlt hr);clear hr;have hlt':(i:Int)<3:=by omega
      go_wp2_with (go_at_call 210;refine HR.o.mono ?_;rintro e r ⟨rfl,G⟩;rw[G];clear G)
      obtain⟨q,DU⟩:=vO HM.o.res (I J 0) (I J 0) (I J 0) (Z U 0 0);generalize ((((wr.setCell ⟨w.heap.size,0,U⟩ (Value.int J 0)).setCell ⟨w.heap.size,1,U⟩ (Value.int J 0)).setCell ⟨w.heap.size,2,U⟩ (Value.int J 0)).setCell ⟨w.heap.size,3,U⟩ (Value.slice U 0 0))=m at q DU ⊢;obtain⟨⟨r0,r1,r2,r3⟩,_⟩:=uq q;refine fI (v:=.tuple #[.agg #[I J 0,I J 0,I J 0,Z U 0 0],.bool F]) (by simp[results,results211,go_sem,r0,r1,r2,r3]) rfl (.no HX.o (HM.o.below.trans (DU.below (fun k e=>by omega) (by have:=HM.o.size;omega))))
    | some p =>
      obtain⟨v,s⟩:=p;rw[DR hr] at HR;have HX:=H9 (HA.o.step hlt hr);have hrl:=Jn.PO hr;obtain⟨d,g,rfl,hcs⟩:=D.o.lit (by omega);clear hr hcs;have E9:Hid (∀a,(if c=s then M (⟨d,g,U⟩:Addr) else M ⟨d,g+s,U⟩)=M a->¬a.block=w.heap.size+1):=fun a e=>by
       have hbb:d≠w.heap.size+1:=fun e=>by have:=Zg.o (by omega) d hbl.symm;omega
       split at e <;> (injection e with e;subst e;exact hbb)
      have HBk:Hid (fV (if c=s then M (⟨d,g,U⟩:Addr) else M ⟨d,g+s,U⟩)=fV ao):=by
       unfold Hid;rw[<-hbl];split <;> rfl
      clear hbl;have hlt':(i:Int)<3:=by omega
      have ts:((s:Int)==0)=F:=by rw[aR];omega
      have s1:(s:Int)<=f:=by omega
      have s2:(s:Int)<=c:=by omega
      rcases(show i=0∨i=1∨i=2 by omega) with rfl | rfl | rfl
      . have H:=H9 (HM.o.af2 v);have L:Hid (gN (wr.setCell ⟨w.heap.size+1,0,U⟩ (I J v)).drew (if c=s then M ⟨d,g,U⟩ else M ⟨d,g+s,U⟩) (c-s) (j.drop s)):=by
         have N:=D.o.cut (gJ:=if c=s then M ⟨d,g,U⟩ else M ⟨d,g+s,U⟩) s j.length (by omega) (aM _) (fun e=>by rw[if_neg e];simp[Addr.add_lit]);rw[dJ (by rw[bT];omega)] at N;have ht:Turns (fun k=>k=w.heap.size+1) wr (wr.setCell ⟨w.heap.size+1,0,U⟩ (I J v)):=Turns.setCell _ wr _ _ rfl;exact(N.turns ht (fun a e=>E9.o a e)).stay (gy _ _)
        go_wp2_with (go_at_call 210;refine HR.o.mono ?_;rintro e r ⟨rfl,G⟩;rw[G];clear G)
        go_region
        generalize (wr.setCell ⟨w.heap.size+1,0,U⟩ (Value.int J v)).drew=m at *;generalize (if c=s then M (⟨d,g,U⟩:Addr) else M ⟨d,g+s,U⟩)=aj at *;go_wp2;go_roundw
        case rel=>exact⟨1,f-s,c-s,aj,j.drop s,v,y,z,by omega,rfl,by go_num,HX.o,L.o,by rw[bT,t],HBk.o,H.o⟩
        case measure=>first | (simp[intOf];done) | (simp[intOf];omega)
      . have H:=H9 (HM.o.abu v);have L:Hid (gN (wr.setCell ⟨w.heap.size+1,1,U⟩ (I J v)).drew (if c=s then M ⟨d,g,U⟩ else M ⟨d,g+s,U⟩) (c-s) (j.drop s)):=by
         have N:=D.o.cut (gJ:=if c=s then M ⟨d,g,U⟩ else M ⟨d,g+s,U⟩) s j.length (by omega) (aM _) (fun e=>by rw[if_neg e];simp[Addr.add_lit]);rw[dJ (by rw[bT];omega)] at N;have ht:Turns (fun k=>k=w.heap.size+1) wr (wr.setCell ⟨w.heap.size+1,1,U⟩ (I J v)):=Turns.setCell _ wr _ _ rfl;exact(N.turns ht (fun a e=>E9.o a e)).stay (gy _ _)
        go_wp2_with (go_at_call 210;refine HR.o.mono ?_;rintro e r ⟨rfl,G⟩;rw[G];clear G)
        go_region
        generalize (wr.setCell ⟨w.heap.size+1,1,U⟩ (Value.int J v)).drew=m at *;generalize (if c=s then M (⟨d,g,U⟩:Addr) else M ⟨d,g+s,U⟩)=aj at *;go_wp2;go_roundw
        case rel=>exact⟨2,f-s,c-s,aj,j.drop s,x,v,z,by omega,rfl,by go_num,HX.o,L.o,by rw[bT,t],HBk.o,H.o⟩
        case measure=>first | (simp[intOf];done) | (simp[intOf];omega)
      . have H:=H9 (HM.o.Ns v);have L:Hid (gN (wr.setCell ⟨w.heap.size+1,2,U⟩ (I J v)).drew (if c=s then M ⟨d,g,U⟩ else M ⟨d,g+s,U⟩) (c-s) (j.drop s)):=by
         have N:=D.o.cut (gJ:=if c=s then M ⟨d,g,U⟩ else M ⟨d,g+s,U⟩) s j.length (by omega) (aM _) (fun e=>by rw[if_neg e];simp[Addr.add_lit]);rw[dJ (by rw[bT];omega)] at N;have ht:Turns (fun k=>k=w.heap.size+1) wr (wr.setCell ⟨w.heap.size+1,2,U⟩ (I J v)):=Turns.setCell _ wr _ _ rfl;exact(N.turns ht (fun a e=>E9.o a e)).stay (gy _ _)
        go_wp2_with (go_at_call 210;refine HR.o.mono ?_;rintro e r ⟨rfl,G⟩;rw[G];clear G)
        go_region
        generalize (wr.setCell ⟨w.heap.size+1,2,U⟩ (Value.int J v)).drew=m at *;generalize (if c=s then M (⟨d,g,U⟩:Addr) else M ⟨d,g+s,U⟩)=aj at *;go_wp2;go_roundw
        case rel=>exact⟨3,f-s,c-s,aj,j.drop s,x,y,v,by omega,rfl,by go_num,HX.o,L.o,by rw[bT,t],HBk.o,H.o⟩
        case measure=>first | (simp[intOf];done) | (simp[intOf];omega)
  . obtain rfl:i=3:=by omega
    have HE:=H9 HA.o.end_;have hs:=HM.o.size;have vP:Hid (Below wr.heap.size wr (wr.alloc (K #[I J x,I J y,I J z,Z u f c] 226))):=(eY _ wr).alloc (aM _) _;have HF:=H9 (fun W=>Gm ⟨x,y,z,j⟩ u f c t W);dsimp only at HF;have hs2:(wr.alloc (K #[I J x,I J y,I J z,Z u f c] 226)).heap.size=w.heap.size+3:=by rw[fG,hs]
    have xV:Hid (∀W,Below (w.heap.size+3) (wr.alloc (K #[I J x,I J y,I J z,Z u f c] 226)) W->W.heap[w.heap.size]? = M (K #[I J 0,I J 0,I J 0,Z U 0 0] 226 (0,0))∧W.heap[w.heap.size+2]? = M (K #[I J x,I J y,I J z,Z u f c] 226 (0,0))∧gN W u c j∧Below w.heap.size w W):=fun W hW=>by
     refine⟨(hW.block _ (by omega)).trans ((Below.heap_alloc _ _ _ (by omega)).trans HM.o.res),(hW.block _ (by omega)).trans ?_,D.o.stay (vP.o.trans (hW.mono (by omega))),HM.o.below.trans ((vP.o.trans (hW.mono (by omega))).mono (by omega))⟩;have:=eX wr (K #[I J x,I J y,I J z,Z u f c] 226);rw[hs] at this;exact this
    have T:=H9 (HF.o (wr.alloc (K #[I J x,I J y,I J z,Z u f c] 226)));rw[hs2] at T;have hnn:f<=1000000000:=by omega
    clear HF HR hlt hle;cases hf:Jn.fits ⟨x,y,z,j⟩ with
    | false =>
      have HN:Hid (Jn.inner b=U):=by unfold Hid;rw[HE.o,if_neg (by simp[hf])]
      rw[hf] at T;clear hf HE;go_upto_region 12 with (go_at_call 249;refine T.o.mono ?_;rintro e r ⟨rfl,hb3⟩;have HB3:=H9 hb3;clear hb3)
      obtain⟨B,_,_,hb⟩:=xV.o r HB3.o;have Gn:=H9 hb;have HR3:=H9 B;obtain⟨⟨a0,a1,a2,a3⟩,g0,g1,g2,g3⟩:=uq B;clear B hb;go_wp2;obtain⟨q,DU⟩:=vO HR3.o (I J 0) (I J 0) (I J 0) (Z U 0 0);generalize ((((r.setCell ⟨w.heap.size,0,U⟩ (Value.int J 0)).setCell ⟨w.heap.size,1,U⟩ (Value.int J 0)).setCell ⟨w.heap.size,2,U⟩ (Value.int J 0)).setCell ⟨w.heap.size,3,U⟩ (Value.slice U 0 0))=m at q DU ⊢;obtain⟨⟨r0,r1,r2,r3⟩,_⟩:=uq q;refine fI (v:=.tuple #[.agg #[I J 0,I J 0,I J 0,Z U 0 0],.bool F]) (by simp[results,results211,go_sem,r0,r1,r2,r3]) rfl (.no HN.o (Gn.o.trans (DU.below (fun k e=>by omega) Gn.o.size)))
    | true =>
      have HY:Hid (Jn.inner b=M ⟨x,y,z,j⟩):=by unfold Hid;rw[HE.o,if_pos hf]
      rw[hf] at T;obtain⟨i0,hi0,hz0,hz1,hz2⟩:=info_parts jJ;have Hi:=H9 hi0;have kY:=H9 hz0;have kT:=H9 hz1;have kZ:=H9 hz2
      clear hf HE hi0 hz0 hz1 hz2;go_upto_region 13 with (go_at_call 249;refine T.o.mono ?_;rintro e r ⟨rfl,hb3⟩;have HB3:=H9 hb3;clear hb3)
      obtain⟨B,hq3,Qk,hb⟩:=xV.o r HB3.o;have HI3:=H9 Qk;have hz3:w.heap.size+3<=r.heap.size:=by have:=HB3.o.size;omega
      have Ux:Hid (∀m,Turns (fun k=>jy [] U=M k) r m->Below r.heap.size r m∧(m.heap[w.heap.size]? = M (K #[I J 0,I J 0,I J 0,Z U 0 0] 226 (0,0))∧m.heap[w.heap.size+2]? = M (K #[I J x,I J y,I J z,Z u f c] 226 (0,0)))):=fun m ht=>by
       have C:Below r.heap.size r m:=ht.below (fun k e=>by simp[jy] at e) (aM _);exact⟨C,(C.block _ (by omega)).trans B,(C.block _ (by omega)).trans hq3⟩
      have Gn:=H9 hb;clear B hb hq3 Qk;go_upto_region 14 with (at_builtin;refine kN (S:=fun _=>False) rfl (.const (Z U 0 0)) (.tmp 39) 31 rfl 5 i0 underlying31 Hi.o kY.o kT.o kZ.o (l:=[]) rfl rfl (gK.nil _ _ _) rfl HI3.o t (by omega) ?_;intro Uy Uz m hO4 vQ;obtain⟨C,q,hq4⟩:=Ux.o m vQ;have HR4:=H9 q;have HQ4:=H9 hq4;obtain⟨⟨k0,k1,k2,k3⟩,l0,l1,l2,l3⟩:=uq hq4;have kr:=H9 C;have JA:=H9 hO4;clear hO4 vQ C q hq4)
      have Ad:Turns (fun k=>k=w.heap.size+2) m (m.setCell ⟨w.heap.size+2,3,U⟩ (Z Uy f Uz)):=Turns.setCell _ m _ _ rfl;have hq5:=fu m (w.heap.size+2) 3 _ _ (Z Uy f Uz) HQ4.o;have nW:=Ad.row HR4.o (by omega);have zk:Hid (jI (m.setCell ⟨w.heap.size+2,3,U⟩ (Z Uy f Uz)) (fun k=>r.heap.size<=k) Uy Uz j):=by
       have N:=JA.o;rw[dx] at N;refine(N.abm.mono (S':=fun k=>r.heap.size<=k) (fun k _ e=>?_)).turns Ad (fun k e e2=>by omega);rcases e with e | e
       . simp[jy] at e
       . exact e
      have nX:Hid (Below w.heap.size w (m.setCell ⟨w.heap.size+2,3,U⟩ (Z Uy f Uz))):=(Gn.o.trans (kr.o.mono (by omega))).trans (Ad.below (fun k e=>by omega) (by have:=kr.o.size;omega));generalize m.setCell ⟨w.heap.size+2,3,U⟩ (Z Uy f Uz)=w5 at *;obtain⟨⟨m0,m1,m2,m3⟩,_⟩:=uq hq5;obtain⟨⟨p0,p1,p2,p3⟩,q0,q1,q2,q3⟩:=uq nW;have HR5:=H9 nW;clear nW hq5 Ad HQ4 HR4 JA k0 k1 k2 k3 l0 l1 l2 l3;go_wp2;obtain⟨Bh,ht6⟩:=vO HR5.o (I J x) (I J y) (I J z) (Z Uy f Uz);generalize ((((w5.setCell ⟨w.heap.size,0,U⟩ (Value.int J x)).setCell ⟨w.heap.size,1,U⟩ (Value.int J y)).setCell ⟨w.heap.size,2,U⟩ (Value.int J z)).setCell ⟨w.heap.size,3,U⟩ (Value.slice Uy f Uz))=w6 at Bh ht6 ⊢;obtain⟨⟨r0,r1,r2,r3⟩,_⟩:=uq Bh;have hy:=DT.yes (w:=w) (b:=b) (w':=w6) ⟨x,y,z,j⟩ Uy Uz HY.o ((zk.o.turns ht6 (fun k e e2=>by omega)).mono (fun k _ e=>by omega)) (nX.o.trans (ht6.below (fun k e=>by omega) nX.o.size));dsimp only at hy;rw[t] at hy;refine fI (v:=.tuple #[.agg #[I J x,I J y,I J z,Z Uy f Uz],.bool true]) (by simp[results,results211,go_sem,r0,r1,r2,r3]) rfl hy
structure je (w:X)(base g:Nat)(b:av)(sure:Nat)(ao:ak)(ca:Nat):Prop where
 row:w.heap[g]? = M (K #[Z ao b.length ca,I J (sure:Int)] 144 (0,0))
 own:iA w base 5 ao ca b
 low:base<=g
 le:sure<=b.length
 few:b.length<=100000
theorem kG {W:X}{g t:Nat}{a b:Value}(h:W.heap[g]? = M (K #[a,b] t (0,0))):(W.cell? ⟨g,0,U⟩=M a∧W.cell? ⟨g,1,U⟩=M b)∧(W.frozen? ⟨g,0,U⟩=F∧W.frozen? ⟨g,1,U⟩=F) :=
 ⟨⟨eZ W g 0 _ _ _ h,eZ W g 1 _ _ _ h⟩,fq W g 0 _ _ h,fq W g 1 _ _ h⟩
section
variable {w w':X} {base g:Nat} {b:av} {sure:Nat} {ao:ak} {ca:Nat}
theorem je.stay (h:je w base g b sure ao ca)(a:Below w.heap.size w w'):je w' base g b sure ao ca:=⟨(a.block g (aL.1 h.row).1).trans h.row,h.own.stay a,h.low,h.le,h.few⟩
theorem je.lt (h:je w base g b sure ao ca):g<w.heap.size:=(aL.1 h.row).1
theorem adx:(144:Nat)≠5:=by decide
theorem je.apart (h:je w base g b sure ao ca):∀a,ao=M a->a.block≠g:=by
 intro a e c;have:=kP h.row h.own adx;rw[gD,e] at this;exact this (by rw[<-c];rfl)
theorem Nt (w:X):Calls prog 34 #[] w fun e w'=>e=Y (Q (M ⟨w.heap.size,0,U⟩))∧je w' w.heap.size w.heap.size [] 0 U 0∧Below w.heap.size w w':=by
 have H:Hid (je (w.alloc (K #[Z U 0 0,I J 0] 144)) w.heap.size w.heap.size [] 0 U 0∧Below w.heap.size w (w.alloc (K #[Z U 0 0,I J 0] 144))) :=
  ⟨⟨eX w _,iA.nil _ _ _,aM _,aM _,by decide⟩,(eY _ w).alloc (aM _) _⟩
 go_enter func34,ntmps34;go_wp2;go_ret;exact⟨rfl,H.o⟩
theorem vR (h:je w base g b sure ao ca)(n:Int):Calls prog 226 #[Q (M ⟨g,0,U⟩),I J n] w fun e w'=>e=Y (.bool (decide (0<=n)&&decide (n<=100000-(b.length:Int))))∧w'=w:=by
 have f:=kG h.row;have i:=h.few;have j:IntKind.i64.wrap (100000-(b.length:Int))=100000-(b.length:Int):=ko (by omega) (by omega);generalize b.length=m at *;by_cases c:0<=n
 . by_cases d:n<=100000-(m:Int)
   . have a:(decide (0<=n)&&decide (n<=100000-(m:Int)))=true:=by rw[aI c,aI d];rfl
     generalize (decide (0<=n)&&decide (n<=100000-(m:Int)))=r at *;go_enter func226,ntmps226;go_wp2;go_ret;exact⟨by rw[a];first | rfl | simp,rfl⟩
   . have a:Hid ((decide (0<=n)&&decide (n<=100000-(m:Int)))=F):=by unfold Hid;rw[aJ d];simp
     generalize (decide (0<=n)&&decide (n<=100000-(m:Int)))=r at *;go_enter func226,ntmps226;go_wp2;go_ret;exact⟨by rw[a.o];first | rfl | (simp;done) | (simp;omega),rfl⟩
 . have a:Hid ((decide (0<=n)&&decide (n<=100000-(m:Int)))=F):=by unfold Hid;rw[aJ c];rfl
   generalize (decide (0<=n)&&decide (n<=100000-(m:Int)))=r at *;go_enter func226,ntmps226;go_wp2;go_ret;exact⟨by rw[a.o];first | rfl | simp,rfl⟩
theorem iA.less {t:Nat}(h:iA w base t ao ca b)(n:Nat)(q:n<=b.length):iA w base t ao ca (b.take n):=by
 have i:(b.take n).length=n:=by rw[bW];omega
 have e:ig (b.take n)=(ig b).take n:=by unfold ig;rw[List.map_take]
 unfold iA;rw[i,e];refine⟨by rw[bW,gF];omega,?_⟩;rcases h.2 with ⟨a,r⟩ | ⟨g,f,c,a,j,k,l,m,o,p⟩
 . left;injection a with a _ d;subst a;subst d;have:n=0:=by omega
   subst this;exact⟨rfl,rfl⟩
 . right;injection a with a _ d;subst a;subst d;refine⟨g,ca,c,rfl,j,k,by omega,m,o,?_⟩;rw[<-p,List.take_take];congr 1;omega
theorem IB (h:je w base g b sure ao ca):Calls prog 49 #[Q (M ⟨g,0,U⟩)] w fun e w'=>∃gJ BS,e=Y (Z gJ b.length BS)∧gN w' gJ BS b∧Below w.heap.size w w':=by
 obtain⟨⟨p,G⟩,_⟩:=kG h.row;have q:=h.own.tQ;have r:=h.few;obtain⟨s,c,d,f,i⟩:=info_parts jJ;have t:=c;have u:=H9 d;have v:=H9 f;have x:=H9 i
 obtain⟨m,j⟩:∃m,b.length=m:=⟨_,rfl⟩;rw[j] at p r;rw[j];go_enter func49,ntmps49;go_wp2_with (at_builtin;refine kN (S:=fun _=>False) rfl (.const (Z U 0 0)) (.tmp 6) 31 rfl 5 s underlying31 t u.o v.o x.o (l:=[]) rfl rfl (gK.nil _ _ _) rfl q j (by omega) ?_;intro y z B a n;have C:=H9 a.tQ;have D:Hid (Below w.heap.size w B):=n.below (fun k e=>by simp[jy] at e) (aM _);clear a n)
 go_ret;exact⟨y,z,by first | rfl | simp,by have:=C.o;rwa[dx] at this,D.o⟩
theorem je.put (h:je w base g b sure ao ca)(n:Nat)(c:n<=b.length):je (w.setCell ⟨g,1,U⟩ (I J (n:Int))) base g b n ao ca∧Turns (fun k=>k=g) w (w.setCell ⟨g,1,U⟩ (I J (n:Int))):=by
 have a:Turns (fun k=>k=g) w (w.setCell ⟨g,1,U⟩ (I J (n:Int))):=Turns.setCell _ w _ _ rfl;exact⟨⟨fu w g 1 _ _ _ h.row,h.own.turns a h.apart,h.low,c,h.few⟩,a⟩
theorem Bj (h:je w base g b sure ao ca):Calls prog 150 #[Q (M ⟨g,0,U⟩)] w fun e w'=>e=Y (.tuple #[])∧je w' base g b b.length ao ca∧Turns (fun k=>k=g) w w':=by
 obtain⟨⟨c,d⟩,f,i⟩:=kG h.row;have a:=H9 (h.put b.length (aM _));clear h;generalize b.length=m at *;go_enter func150,ntmps150;go_wp2;go_end0
 exact⟨rfl,a.o⟩
theorem je.cut (h:je w base g b sure ao ca)(n:Nat)(d:n<=b.length):je ((w.setCell ⟨g,0,U⟩ (Z ao n ca)).setCell ⟨g,1,U⟩ (I J ((min sure n:Nat):Int))) base g (b.take n) (min sure n) ao ca∧Turns (fun k=>k=g) w ((w.setCell ⟨g,0,U⟩ (Z ao n ca)).setCell ⟨g,1,U⟩ (I J ((min sure n:Nat):Int))):=by
 have f:Turns (fun k=>k=g) w (w.setCell ⟨g,0,U⟩ (Z ao n ca)):=Turns.setCell _ w _ _ rfl;have i:Turns (fun k=>k=g) (w.setCell ⟨g,0,U⟩ (Z ao n ca)) ((w.setCell ⟨g,0,U⟩ (Z ao n ca)).setCell ⟨g,1,U⟩ (I J ((min sure n:Nat):Int))):=Turns.setCell _ _ _ _ rfl;have c:=f.trans i (fun _ e _=>e);have a:(b.take n).length=n:=by rw[bW];omega
 have j:=fu _ g 1 _ _ (I J ((min sure n:Nat):Int)) (fu w g 0 _ _ (Z ao n ca) h.row);refine⟨⟨by rw[a];exact j,(h.own.turns c h.apart).less n d,h.low,by rw[a];omega,by rw[a];have:=h.few;omega⟩,c⟩
theorem Gp (h:je w base g b sure ao ca)(n:Int)(a:¬(0<=n∧n<b.length)):Calls prog 106 #[Q (M ⟨g,0,U⟩),I J n] w fun e w'=>e=Y (.tuple #[])∧w'=w:=by
 obtain⟨⟨c,d⟩,f,i⟩:=kG h.row;clear h;generalize b.length=m at *;by_cases j:n<0
 . clear a;go_enter func106,ntmps106;go_wp2;refine fI (results_none rfl _ _ _) rfl ?_;exact⟨rfl,rfl⟩
 . have k:(m:Int)<=n:=by omega
   clear a;go_enter func106,ntmps106;go_wp2;refine fI (results_none rfl _ _ _) rfl ?_;exact⟨rfl,rfl⟩
theorem DV (h:je w base g b sure ao ca)(n:Nat)(i:n<b.length):Calls prog 106 #[Q (M ⟨g,0,U⟩),I J (n:Int)] w fun e w'=>e=Y (.tuple #[])∧je w' base g (b.take n) (min sure n) ao ca∧Turns (fun k=>k=g) w w':=by
 obtain⟨⟨j,l⟩,p,q⟩:=kG h.row;have a:=H9 (h.cut n (by omega));have f:=h.own.tQ.1;clear h;have r:¬(n:Int)<0:=by omega
 have s:¬(b.length:Int)<=n:=by omega
 have t:(n:Int)<=ca:=by omega
 generalize b.length=m at *;have u:(n:Int)<=m:=by omega
 by_cases v:n<sure
 . have c:min sure n=n:=by omega
   have d:(n:Int)<sure:=by omega
   rw[c] at a ⊢;go_enter func106,ntmps106;go_wp2;go_end0
   exact⟨rfl,a.o⟩
 . have c:min sure n=sure:=by omega
   have d:¬(n:Int)<sure:=by omega
   rw[c] at a ⊢;go_enter func106,ntmps106;go_wp2;go_end0
   exact⟨rfl,a.o⟩
end
section
end
section
end
theorem Tu.Yq (x c:ay)(l:av)(h:c.data.toList=l):(x=c)<->(x.toList==l)=true:=by
 rw[aS,Lib.toList_data,<-h];refine⟨fun e=>by rw[e],fun e=>?_⟩;cases x;cases c;simp only at e;congr 1;exact eU.1 e
theorem Tu.eqV (v l:av):(v=l)<->((⟨v.toArray⟩:ay).toList==l)=true:=by
 rw[aS,Lib.toList_data]
theorem Tu.af7 (t:ay):(t.extract 0 7).toList=t.data.toList.take 7:=by
 rw[Lib.toList_data,Lib.extract_data];simp
theorem Tu.aak (t:ay):(t.extract 7 t.size).data.toList=t.data.toList.drop 7:=by
 rw[Lib.extract_data,dJ];rw[bT,aO];exact aM _
theorem Tu.Qs {t:ay}(h:¬(7<t.size∧t.data.toList.take 7=Tu.kU.data.toList∧(Ch.number 10 9 (t.data.toList.drop 7)).2=true∧Ch.iV 8 (Ch.number 10 9 (t.data.toList.drop 7)).1.toNat=t.data.toList.drop 7))(s:Sp.St):Tu.zV s t=U:=by
 unfold Tu.zV Tu.Vi;rw[if_neg h]
theorem Tu.Ws {t:ay}(h:7<t.size∧t.data.toList.take 7=Tu.kU.data.toList∧(Ch.number 10 9 (t.data.toList.drop 7)).2=true∧Ch.iV 8 (Ch.number 10 9 (t.data.toList.drop 7)).1.toNat=t.data.toList.drop 7)(s:Sp.St):Tu.zV s t=match Sp.place s.l (Ch.number 10 9 (t.data.toList.drop 7)).1 with
 | none=>U
 | some i=>s.l[i]?:=by
 unfold Tu.zV Tu.Vi;rw[if_pos h];rfl
theorem Ch.qc {l:av}(h:(Ch.number 10 9 l).2=true):0<=(Ch.number 10 9 l).1∧(Ch.number 10 9 l).1<1000000000:=by
 have a:¬(l=[]∨(9:Int)<l.length):=fun e=>by unfold Ch.number at h;rw[if_pos e] at h;cases h
 have ha:l.all (Ch.FK 10)=true:=by
  cases e:l.all (Ch.FK 10) with
  | true=>rfl
  | false=>unfold Ch.number at h;rw[if_neg a,e] at h;cases h
 unfold Ch.number;rw[if_neg a,if_pos ha];have c:∀(l:av) (n:Int) (B:Nat),0<=n->n<10 ^ B->l.all (Ch.FK 10)=true->0<=l.foldl (fun n b=>n*10+Ch.hex b.toNat) n∧l.foldl (fun n b=>n*10+Ch.hex b.toNat) n<10 ^ (B+l.length):=by
  intro l;induction l with
  | nil=>intro n B f g _;exact⟨f,g⟩
  | cons b t j =>
    intro n B f g d;rw[dK,cO] at d;have i:=d.1;unfold Ch.FK at i;rw[cO,bP,bP] at i;have e:(10:Int) ^ (B+1)=10 ^ B*10:=Int.pow_succ ..;have:=j (n*10+Ch.hex b.toNat) (B+1) (by omega) (by omega) d.2;simp only[dL,aW];rw[show B+(t.length+1)=B+1+t.length by omega];exact this
 have:=c l 0 0 (by omega) (by decide) ha;refine⟨this.1,Int.lt_of_lt_of_le this.2 ?_⟩;rw[aZ];have k:l.length<=9:=by
  rcases aT 9 l.length with e | e
  . exact absurd (Or.inr (by omega)) a
  . exact e
 calc (10:Int) ^ l.length<=10 ^ 9:=by exact_mod_cast Nat.pow_le_pow_right (by decide) k
  _=1000000000:=by decide
def qP (x:Jn.E):av×Nat:=if Jn.fits x=true then (Jn.enc x,0) else ([],1)
def pre (x:Jn.E):Nat->av
 | 0=>[]
 | 1=>Jn.nb x.kind
 | 2=>Jn.nb x.kind++Jn.nb x.id
 | _=>Jn.head x
def mJ (w:X)(x:Jn.E)(e:Ending)(w':X):Prop:=∃ao cap,e=Y (.tuple #[Z ao (qP x).1.length cap,I J ((qP x).2:Int)])∧iA w' w.heap.size 5 ao cap (qP x).1∧Below w.heap.size w w'
theorem yh {w W:X}{a b c d:Value}{t B:Nat}(e:w.heap.size<B)(h:Below B (w.alloc (K #[a,b,c,d] t)) W):W.cell? ⟨w.heap.size,0,U⟩=M a∧W.cell? ⟨w.heap.size,1,U⟩=M b∧W.cell? ⟨w.heap.size,2,U⟩=M c∧W.cell? ⟨w.heap.size,3,U⟩=M d:=by
 refine⟨?_,?_,?_,?_⟩
 . rw[h.cell (p:=⟨w.heap.size,0,U⟩) e];exact World.cell?_alloc_mark w _ _ _ 0
 . rw[h.cell (p:=⟨w.heap.size,1,U⟩) e];exact World.cell?_alloc_mark w _ _ _ 1
 . rw[h.cell (p:=⟨w.heap.size,2,U⟩) e];exact World.cell?_alloc_mark w _ _ _ 2
 . rw[h.cell (p:=⟨w.heap.size,3,U⟩) e];exact World.cell?_alloc_mark w _ _ _ 3
theorem Oq (W:X)(a b c:Value):
 (Instr.index 235 (.agg #[a,b,c]) (I J 0)).run prog W=.ok a W ∧
 (Instr.index 235 (.agg #[a,b,c]) (I J 1)).run prog W=.ok b W ∧
 (Instr.index 235 (.agg #[a,b,c]) (I J 2)).run prog W=.ok c W:=by
 refine⟨by kernel_rfl,by kernel_rfl,by kernel_rfl⟩
theorem oJ (x:Jn.E)(k:ak)(c p:Nat)(w:X)(hT:gN w k p x.text)(hn:x.text.length=c):
 Calls prog 201 #[.agg #[I J x.kind,I J x.id,I J x.n,Z k c p]] w fun e w'=>mJ w x e w':=by
 have L:Below w.heap.size w (w.alloc (K #[I J x.kind,I J x.id,I J x.n,Z k c p] 226)):=(eY _ w).alloc (aM _) _;have N:=Gm x k c p hn (w.alloc (K #[I J x.kind,I J x.id,I J x.n,Z k c p] 226));have q:(w.alloc (K #[I J x.kind,I J x.id,I J x.n,Z k c p] 226)).heap.size=w.heap.size+1:=by simp
 have HC:∀W,Below (w.heap.size+1) (w.alloc (K #[I J x.kind,I J x.id,I J x.n,Z k c p] 226)) W->W.cell? ⟨w.heap.size,0,U⟩=M (I J x.kind)∧W.cell? ⟨w.heap.size,1,U⟩=M (I J x.id)∧W.cell? ⟨w.heap.size,2,U⟩=M (I J x.n)∧W.cell? ⟨w.heap.size,3,U⟩=M (Z k c p):=fun W h=>yh (by omega) h;rw[q] at N;have HT:∀W,Below (w.heap.size+1) (w.alloc (K #[I J x.kind,I J x.id,I J x.n,Z k c p] 226)) W->gN W k p x.text:=fun W h=>hT.stay (L.trans (h.mono (by omega)));have S:∀W,Below (w.heap.size+1) (w.alloc (K #[I J x.kind,I J x.id,I J x.n,Z k c p] 226)) W->Below w.heap.size w W:=fun W h=>L.trans (h.mono (by omega));obtain⟨i0,hi0,hz0,hz1,hz2⟩:=info_parts jJ;have Hi:=hi0;have kY:=H9 hz0;have kT:=H9 hz1;have kZ:=H9 hz2
 cases C:Jn.fits x with
 | false =>
   rw[C] at N;have T:Hid (qP x=([],1)):=by unfold Hid qP;rw[if_neg (by simp[C])]
   go_enter func201,ntmps201;go_wp2_with (go_at_call 249;refine N.mono ?_;rintro e w2 ⟨rfl,r⟩;have v:=H9 r;clear r)
   go_ret2;exact⟨U,0,by rw[T.o];rfl,by rw[T.o];exact iA.nil _ _ _,S _ v.o⟩
 | true =>
   rw[C] at N;have T:Hid (qP x=(Jn.enc x,0)):=by unfold Hid qP;rw[if_pos C]
   obtain⟨k1,k2,k3,k4⟩:=(Jn.uX x).1 C;have hhl:=Jn.JI C;have hil:=Jn.oL C;rw[hn] at k4;have hin:(Jn.inn x).length=(Jn.head x).length+c:=by rw[Jn.inn,aV,hn]
   have agw:Hid (Jn.enc x=Jn.num ((Jn.head x).length+c+1)++Jn.head x++x.text):=by
    unfold Hid Jn.enc;rw[hin,Jn.inn,dO]
   go_enter func201,ntmps201;go_upto_region 3 with (go_at_call 249;refine N.mono ?_;rintro e w2 ⟨rfl,r⟩;have v:=H9 r;clear r)
   have HB1:=v.o;obtain⟨c0,c1,c2,c3⟩:=HC _ v.o;generalize w.alloc (K #[I J x.kind,I J x.id,I J x.n,Z k c p] 226)=w1 at *;go_wp2;have HPl:∀i,(pre x i).length<=15:=fun i=>by
    have e:(Jn.head x).length=(Jn.nb x.kind).length+(Jn.nb x.id).length+(Jn.nb x.n).length:=by simp[Jn.head,Nat.add_assoc]
    match i with
    | 0=>simp[pre]
    | 1=>simp only[pre];omega
    | 2=>simp only[pre,aV];omega
    | (n+3)=>exact hhl
   go_loopw [4,18] (fun vo vi wr=>∃(i m:Nat) (g:ak) (j:Nat),i<=3∧vi=I J i∧vo=Z g m j∧iA wr (w.heap.size+1) 5 g j (pre x i)∧(pre x i).length=m∧Below (w.heap.size+1) w1 wr) (fun _ vi _=>3-(intOf vi).toNat)
   case atStart=>exact⟨0,0,U,0,by omega,rfl,rfl,iA.nil _ _ _,rfl,HB1⟩
   case round =>
    obtain⟨i,m,g,j,hi,rfl,rfl,hO,hL,hB⟩:=hrel;have HO:=hO;have s:=H9 hB;have t:=H9 hL
    have hm:m<=15:=by have:=HPl i;omega
    rcases(show i=0∨i=1∨i=2∨i=3 by omega) with rfl | rfl | rfl | rfl
    . have D:∀W g j m,iA W (w.heap.size+1) 5 g j (pre x 0)->(pre x 0).length=m->m<=15->Below (w.heap.size+1) w1 W->Calls prog 250 #[Z g m j,I J x.kind] W fun e w'=>∃u a,e=Y (Z u (m+(Jn.num (x.kind+1).toNat).length) a)∧iA w' (w.heap.size+1) 5 u a (pre x 0++Jn.num (x.kind+1).toNat)∧Below (w.heap.size+1) W w':=fun W g j m h1 h2 h3 h4=>mI (x.kind+1).toNat (by omega) (w.heap.size+1) g j m _ W h1 h2 (by omega) (by have:=h4.size;have:=q;omega) x.kind (by omega);have hx:=(Oq wr (I J x.kind) (I J x.id) (I J x.n)).1;have z:pre x 1=pre x 0++Jn.num (x.kind+1).toNat:=rfl;go_wp2_with (go_at_call 250;refine(D _ _ _ _ HO t.o hm s.o).mono ?_;rintro e w3 ⟨G,H,rfl,d,b⟩;have B:=H9 d;have f:=H9 b;clear d b)
      go_roundw
      case rel=>exact⟨1,_,G,H,by omega,rfl,rfl,by rw[z];exact B.o,by rw[z,aV,t.o],s.o.trans f.o⟩
      case measure=>first | (simp[intOf];done) | (simp[intOf];omega)
    . have D:∀W g j m,iA W (w.heap.size+1) 5 g j (pre x 1)->(pre x 1).length=m->m<=15->Below (w.heap.size+1) w1 W->Calls prog 250 #[Z g m j,I J x.id] W fun e w'=>∃u a,e=Y (Z u (m+(Jn.num (x.id+1).toNat).length) a)∧iA w' (w.heap.size+1) 5 u a (pre x 1++Jn.num (x.id+1).toNat)∧Below (w.heap.size+1) W w':=fun W g j m h1 h2 h3 h4=>mI (x.id+1).toNat (by omega) (w.heap.size+1) g j m _ W h1 h2 (by omega) (by have:=h4.size;have:=q;omega) x.id (by omega);have hx:=(Oq wr (I J x.kind) (I J x.id) (I J x.n)).2.1;have z:pre x 2=pre x 1++Jn.num (x.id+1).toNat:=rfl;go_wp2_with (go_at_call 250;refine(D _ _ _ _ HO t.o hm s.o).mono ?_;rintro e w3 ⟨G,H,rfl,d,b⟩;have B:=H9 d;have f:=H9 b;clear d b)
      go_roundw
      case rel=>exact⟨2,_,G,H,by omega,rfl,rfl,by rw[z];exact B.o,by rw[z,aV,t.o],s.o.trans f.o⟩
      case measure=>first | (simp[intOf];done) | (simp[intOf];omega)
    . have D:∀W g j m,iA W (w.heap.size+1) 5 g j (pre x 2)->(pre x 2).length=m->m<=15->Below (w.heap.size+1) w1 W->Calls prog 250 #[Z g m j,I J x.n] W fun e w'=>∃u a,e=Y (Z u (m+(Jn.num (x.n+1).toNat).length) a)∧iA w' (w.heap.size+1) 5 u a (pre x 2++Jn.num (x.n+1).toNat)∧Below (w.heap.size+1) W w':=fun W g j m h1 h2 h3 h4=>mI (x.n+1).toNat (by omega) (w.heap.size+1) g j m _ W h1 h2 (by omega) (by have:=h4.size;have:=q;omega) x.n (by omega);have hx:=(Oq wr (I J x.kind) (I J x.id) (I J x.n)).2.2;have z:pre x 3=pre x 2++Jn.num (x.n+1).toNat:=rfl;go_wp2_with (go_at_call 250;refine(D _ _ _ _ HO t.o hm s.o).mono ?_;rintro e w3 ⟨G,H,rfl,d,b⟩;have B:=H9 d;have f:=H9 b;clear d b)
      go_roundw
      case rel=>exact⟨3,_,G,H,by omega,rfl,rfl,by rw[z];exact B.o,by rw[z,aV,t.o],s.o.trans f.o⟩
      case measure=>first | (simp[intOf];done) | (simp[intOf];omega)
    . obtain⟨d0,d1,d2,d3⟩:=HC _ s.o;have HPh:pre x 3=Jn.head x:=rfl;rw[HPh] at HO t;have Zk:Hid (w.heap.size+1<=wr.heap.size):=by have:=s.o.size;have:=q;unfold Hid;omega
      have D:Hid (Calls prog 250 #[Z U 0 0,I J ((m:Int)+c)] wr fun e w'=>∃u a,e=Y (Z u (Jn.num (m+c+1)).length a)∧iA w' wr.heap.size 5 u a (Jn.num (m+c+1))∧Below wr.heap.size wr w'):=by
       have:=mI (m+c+1) (by omega) wr.heap.size U 0 0 [] wr (iA.nil _ _ _) rfl (by omega) (aM _) ((m:Int)+c) (by omega);unfold Hid;simpa using this
      have hwr:IntKind.i64.wrap ((m:Int)+c)=(m:Int)+c:=ko (by omega) (by omega);have hnl:(Jn.num (m+c+1)).length<=5:=Jn.Ce 4 _ (by omega);have HE2:Jn.enc x=Jn.num (m+c+1)++Jn.head x++x.text:=by rw[agw.o,t.o]
      have wV:x.text.length=c:=hn;generalize Jn.num (m+c+1)=nm at *;go_wp2_with (first
       | (go_at_call 250;refine D.o.mono ?_;rintro e w3 ⟨G,H,rfl,d,b⟩;have B:=H9 d;have f:=H9 b;have HI3:=H9 (HO.tQ.stay b);clear d b)
       | (at_builtin;refine jo rfl (.tmp 32) (.tmp 33) 31 rfl wr.heap.size 5 i0 underlying31 Hi kY.o kT.o kZ.o (l:=nm) (l2:=Jn.head x) rfl rfl B.o rfl t.o HI3.o (by omega) f.o.size ?_;intro rO yC w4 hO4 hG4;have y:=f.o.trans (uw B.o hG4 f.o.size);have JA:=H9 hO4;have kr:=H9 y;have agy:=H9 (s.o.trans (y.mono Zk.o));obtain⟨e0,e1,e2,e3⟩:=HC _ (s.o.trans (y.mono Zk.o));clear hO4 hG4 y)
       | (at_builtin;refine jo rfl (.tmp 35) (.tmp 37) 31 rfl wr.heap.size 5 i0 underlying31 Hi kY.o kT.o kZ.o (l:=nm++Jn.head x) (l2:=x.text) rfl (by rw[aV,t.o]) JA.o rfl wV (HT _ agy.o) (by omega) kr.o.size ?_;intro xY ca5 w5 vX IL;have hb5:=kr.o.trans (uw JA.o IL kr.o.size);have zk:=H9 vX;have nX:=H9 (s.o.trans (hb5.mono Zk.o));clear vX IL hb5))
      go_ret2;exact⟨xY,ca5,by rw[T.o,HE2,aV,aV,t.o,wV];rfl,by rw[T.o,HE2];exact zk.o.mono (by have:=Zk.o;omega),S _ nX.o⟩
inductive Jt (w:X)(b:av):Ending->X->Prop
 | no {w'}:Jn.one b=U->Below w.heap.size w w'->Jt w b (Y (.tuple #[.agg #[I J 0,I J 0,I J 0,Z U 0 0],I J 0])) w'
 | yes {w'} (e:Jn.E) (s:Nat) (ta:ak) (tc:Nat):Jn.one b=M (e,s)->jI w' (fun k=>w.heap.size<=k) ta tc e.text->Below w.heap.size w w'->Jt w b (Y (.tuple #[.agg #[I J e.kind,I J e.id,I J e.n,Z ta e.text.length tc],I J (s:Int)])) w'
theorem Mj {b:av}(h:Jn.rn b=U):Jn.one b=U:=by unfold Jn.one;rw[h]
theorem Pq {b:av}{x:Int}{s:Nat}(h:Jn.rn b=M (x,s))(a:¬(0<=x∧x<=(b.length:Int)-s)):Jn.one b=U:=by unfold Jn.one;rw[h];simp only;rw[if_neg a]
theorem Mk {b:av}{x:Int}{s:Nat}(h:Jn.rn b=M (x,s))(a:0<=x∧x<=(b.length:Int)-s):Jn.one b=(Jn.inner ((b.drop s).take x.toNat)).map fun e=>(e,s+x.toNat):=by unfold Jn.one;rw[h];simp only;rw[if_pos a]
theorem xL (b:av)(ao:ak)(cap n:Nat)(w:X)(hB:gN w ao cap b)(hn:b.length=n)(hN:n<=1000000000):
 Calls prog 155 #[Z ao n cap] w fun e w'=>Jt w b e w':=by
 have G:Below w.heap.size w (w.alloc (K #[I J 0,I J 0,I J 0,Z U 0 0] 226)):=(eY _ w).alloc (aM _) _;have hs1:(w.alloc (K #[I J 0,I J 0,I J 0,Z U 0 0] 226)).heap.size=w.heap.size+1:=by simp
 have HR:=H9 (vM b ao cap n _ (hB.stay G) hn hN);have hcap:=hB.1;have H:Hid (∀W,Below (w.heap.size+1) (w.alloc (K #[I J 0,I J 0,I J 0,Z U 0 0] 226)) W->W.heap[w.heap.size]? = M (K #[I J 0,I J 0,I J 0,Z U 0 0] 226 (0,0))∧Below w.heap.size w W∧gN W ao cap b):=fun W hW =>
  ⟨(hW.block _ (by omega)).trans (eX w _),G.trans (hW.mono (by omega)),hB.stay (G.trans (hW.mono (by omega)))⟩
 have HZ:=H9 hs1;clear hB G hs1;have c:=H.o _ (eY _ _);obtain⟨⟨c0,c1,c2,c3⟩,f0,f1,f2,f3⟩:=uq c.1;have HR1:=H9 c.1;have r:=H9 c.2.1;have HI1:=H9 c.2.2;clear c;go_enter func155,ntmps155;go_upto_region 1 with fail
 generalize w.alloc (K #[I J 0,I J 0,I J 0,Z U 0 0] 226)=f at *;cases L:Jn.rn b with
 | none =>
   rw[DN L] at HR;have D:=H9 (Mj L);clear L;go_wp2_with (go_at_call 210;refine HR.o.mono ?_;rintro e d ⟨rfl,l⟩;rw[l];clear l)
   obtain⟨a,DU⟩:=vO HR1.o (I J 0) (I J 0) (I J 0) (Z U 0 0);generalize ((((f.setCell ⟨w.heap.size,0,U⟩ (Value.int J 0)).setCell ⟨w.heap.size,1,U⟩ (Value.int J 0)).setCell ⟨w.heap.size,2,U⟩ (Value.int J 0)).setCell ⟨w.heap.size,3,U⟩ (Value.slice U 0 0))=w4 at a DU ⊢;obtain⟨⟨N,T,r2,r3⟩,_⟩:=uq a;refine fI (v:=.tuple #[.agg #[I J 0,I J 0,I J 0,Z U 0 0],I J 0]) (by simp[results,results155,go_sem,N,T,r2,r3]) rfl (.no D.o (r.o.trans (DU.below (fun k e=>by omega) r.o.size)))
 | some p =>
   obtain⟨x,s⟩:=p;rw[DR L] at HR;have hrl:=Jn.PO L;have ts:((s:Int)==0)=F:=by rw[aR];omega
   have hws:IntKind.i64.wrap ((n:Int)-s)=(n:Int)-s:=ko (by omega) (by omega);by_cases hx:0<=x∧x<=(n:Int)-s
   . have D:=H9 (Mk L (by rw[hn];exact hx));obtain⟨hx0,hx1⟩:=hx;obtain⟨m,rfl⟩:∃m:Nat,x=m:=⟨x.toNat,by omega⟩;rw[Int.toNat_natCast] at D;clear L;obtain⟨u,y,rfl,hcs⟩:=HI1.o.lit (by omega);clear hcs;have t1:¬(m:Int)<0:=by omega
     have t2:¬(n:Int)-s<m:=by omega
     have i1:(s:Int)<=(s:Int)+m:=by omega
     have i2:(s:Int)+m<=cap:=by omega
     have hwm:IntKind.i64.wrap ((s:Int)+m)=(s:Int)+m:=ko (by omega) (by omega);have hsb:(s:Int)<=cap:=by omega
     have i3:((s:Int)+m).toNat=s+m:=by omega
     have HIn:Hid (∀W,Below (w.heap.size+1) f W->Calls prog 211 #[Z (if cap=s then M ⟨u,y,U⟩ else M ⟨u,y+s,U⟩) m (cap-s)] W fun e w'=>DT W ((b.drop s).take m) e w'):=fun W hW=>by
      have c:=(H.o W hW).2.2.cut (gJ:=if cap=s then M ⟨u,y,U⟩ else M ⟨u,y+s,U⟩) s (s+m) (by omega) (by omega) (fun e=>by rw[if_neg e];simp[Addr.add_lit]);rw[show s+m-s=m by omega] at c;exact E8 _ _ _ m W c (by rw[bW,bT];omega) (by omega)
     cases j:Jn.inner ((b.drop s).take m) with
     | none =>
       have HN:Hid (Jn.one b=U):=by unfold Hid;rw[D.o,j];rfl
       have HI2:Hid (Calls prog 211 #[Z (if cap=s then M ⟨u,y,U⟩ else M ⟨u,y+s,U⟩) m (cap-s)] f fun e w'=>e=Y (.tuple #[.agg #[I J 0,I J 0,I J 0,Z U 0 0],.bool F])∧Below f.heap.size f w'):=(HIn.o f (eY _ _)).mono fun e w' h=>by
        cases h with
        | no c h2=>exact⟨rfl,h2⟩
        | yes q g i c _ _=>rw[j] at c;cases c
       clear j HIn D;go_upto_region 6 with (first
        | (go_at_call 210;refine HR.o.mono ?_;rintro e d ⟨rfl,l⟩;rw[l];clear l)
        | (go_at_call 211;refine HI2.o.mono ?_;rintro e d ⟨rfl,z⟩;have t:=H9 z;clear z))
       generalize (if cap=s then M (⟨u,y,U⟩:Addr) else M ⟨u,y+s,U⟩)=aj at *;have B:Below (w.heap.size+1) f (d.alloc (K #[I J 0,I J 0,I J 0,Z U 0 0] 226)):=by
        rw[<-HZ.o];exact t.o.alloc t.o.size _
       generalize d.alloc (K #[I J 0,I J 0,I J 0,Z U 0 0] 226)=w4 at *;obtain⟨a,C,_⟩:=H.o w4 B;have HR4:=H9 a;have Gn:=H9 C
       obtain⟨⟨a0,a1,a2,a3⟩,g0,g1,g2,g3⟩:=uq a;clear a C B;go_wp2;obtain⟨nW,Ad⟩:=vO HR4.o (I J 0) (I J 0) (I J 0) (Z U 0 0);generalize ((((w4.setCell ⟨w.heap.size,0,U⟩ (Value.int J 0)).setCell ⟨w.heap.size,1,U⟩ (Value.int J 0)).setCell ⟨w.heap.size,2,U⟩ (Value.int J 0)).setCell ⟨w.heap.size,3,U⟩ (Value.slice U 0 0))=w5 at nW Ad ⊢;obtain⟨⟨N,T,r2,r3⟩,_⟩:=uq nW;refine fI (v:=.tuple #[.agg #[I J 0,I J 0,I J 0,Z U 0 0],I J 0]) (by simp[results,results155,go_sem,N,T,r2,r3]) rfl (.no HN.o (Gn.o.trans (Ad.below (fun k e=>by omega) Gn.o.size)))
     | some q =>
       have HN:Hid (Jn.one b=M (q,s+m)):=by unfold Hid;rw[D.o,j];rfl
       have HI2:Hid (Calls prog 211 #[Z (if cap=s then M ⟨u,y,U⟩ else M ⟨u,y+s,U⟩) m (cap-s)] f fun e w'=>∃g i,e=Y (.tuple #[.agg #[I J q.kind,I J q.id,I J q.n,Z g q.text.length i],.bool true])∧jI w' (fun k=>f.heap.size<=k) g i q.text∧Below f.heap.size f w'):=(HIn.o f (eY _ _)).mono fun e w' h=>by
        cases h with
        | no c h2=>rw[j] at c;cases c
        | yes q' g i c h2 h3 =>
          rw[j] at c;injection c with c;subst c;exact⟨g,i,rfl,h2,h3⟩
       clear j HIn D;generalize hqn:q.text.length=qn at *;go_upto_region 6 with (first
        | (go_at_call 210;refine HR.o.mono ?_;rintro e d ⟨rfl,l⟩;rw[l];clear l)
        | (go_at_call 211;refine HI2.o.mono ?_;rintro e d ⟨g,i,rfl,Qk,z⟩;have t:=H9 z;have HI3:=H9 Qk;clear z Qk))
       generalize (if cap=s then M (⟨u,y,U⟩:Addr) else M ⟨u,y+s,U⟩)=aj at *;have jc:Below d.heap.size d (d.alloc (K #[I J q.kind,I J q.id,I J q.n,Z g qn i] 226)):=(eY _ d).alloc (aM _) _;have B:Below (w.heap.size+1) f (d.alloc (K #[I J q.kind,I J q.id,I J q.n,Z g qn i] 226)):=by
        rw[<-HZ.o];exact t.o.alloc t.o.size _
       have hq4:=eX d (K #[I J q.kind,I J q.id,I J q.n,Z g qn i] 226);have HI4:Hid (jI (d.alloc (K #[I J q.kind,I J q.id,I J q.n,Z g qn i] 226)) (fun k=>f.heap.size<=k) g i q.text):=HI3.o.turns (Turns.of_below (S:=fun _=>False) jc) (fun _ _ e=>e);have hz3:w.heap.size+1<=d.heap.size:=by have:=t.o.size;have:=HZ.o;omega
       generalize d.alloc (K #[I J q.kind,I J q.id,I J q.n,Z g qn i] 226)=w4 at *;generalize d.heap.size=gq at *;obtain⟨a,C,_⟩:=H.o w4 B;have HR4:=H9 a;have Gn:=H9 C
       obtain⟨⟨a0,a1,a2,a3⟩,g0,g1,g2,g3⟩:=uq a;obtain⟨⟨k0,k1,k2,k3⟩,_⟩:=uq hq4;have hne:¬gq=w.heap.size:=by omega
       have hne2:¬w.heap.size=gq:=by omega
       clear a C B hq4 jc;go_wp2;obtain⟨nW,Ad⟩:=vO HR4.o (I J q.kind) (I J q.id) (I J q.n) (Z g qn i);generalize ((((w4.setCell ⟨w.heap.size,0,U⟩ (Value.int J q.kind)).setCell ⟨w.heap.size,1,U⟩ (Value.int J q.id)).setCell ⟨w.heap.size,2,U⟩ (Value.int J q.n)).setCell ⟨w.heap.size,3,U⟩ (Value.slice g qn i))=w5 at nW Ad ⊢;obtain⟨⟨N,T,r2,r3⟩,_⟩:=uq nW;have hy:=Jt.yes (w:=w) (b:=b) (w':=w5) q (s+m) g i HN.o ((HI4.o.turns Ad (fun k e e2=>by have:=HZ.o;omega)).mono (fun k _ e=>by have:=HZ.o;omega)) (Gn.o.trans (Ad.below (fun k e=>by omega) Gn.o.size));rw[hqn] at hy;refine fI (v:=.tuple #[.agg #[I J q.kind,I J q.id,I J q.n,Z g qn i],I J ((s+m:Nat):Int)]) (by simp[results,results155,go_sem,N,T,r2,r3]) rfl hy
   . have D:=H9 (Pq L (by rw[hn];exact hx));clear L;by_cases hx0:x<0
     . clear hx;go_wp2_with (go_at_call 210;refine HR.o.mono ?_;rintro e d ⟨rfl,l⟩;rw[l];clear l)
       obtain⟨a,DU⟩:=vO HR1.o (I J 0) (I J 0) (I J 0) (Z U 0 0);generalize ((((f.setCell ⟨w.heap.size,0,U⟩ (Value.int J 0)).setCell ⟨w.heap.size,1,U⟩ (Value.int J 0)).setCell ⟨w.heap.size,2,U⟩ (Value.int J 0)).setCell ⟨w.heap.size,3,U⟩ (Value.slice U 0 0))=w4 at a DU ⊢;obtain⟨⟨N,T,r2,r3⟩,_⟩:=uq a;refine fI (v:=.tuple #[.agg #[I J 0,I J 0,I J 0,Z U 0 0],I J 0]) (by simp[results,results155,go_sem,N,T,r2,r3]) rfl (.no D.o (r.o.trans (DU.below (fun k e=>by omega) r.o.size)))
     . have t2:(n:Int)-s<x:=by omega
       clear hx;go_wp2_with (go_at_call 210;refine HR.o.mono ?_;rintro e d ⟨rfl,l⟩;rw[l];clear l)
       obtain⟨a,DU⟩:=vO HR1.o (I J 0) (I J 0) (I J 0) (Z U 0 0);generalize ((((f.setCell ⟨w.heap.size,0,U⟩ (Value.int J 0)).setCell ⟨w.heap.size,1,U⟩ (Value.int J 0)).setCell ⟨w.heap.size,2,U⟩ (Value.int J 0)).setCell ⟨w.heap.size,3,U⟩ (Value.slice U 0 0))=w4 at a DU ⊢;obtain⟨⟨N,T,r2,r3⟩,_⟩:=uq a;refine fI (v:=.tuple #[.agg #[I J 0,I J 0,I J 0,Z U 0 0],I J 0]) (by simp[results,results155,go_sem,N,T,r2,r3]) rfl (.no D.o (r.o.trans (DU.below (fun k e=>by omega) r.o.size)))
theorem Z7:(prog.info? 226).map (fun i=>(i.zero,i.size,i.bytes))=M (M (.agg #[I J 0,I J 0,I J 0,Z U 0 0]),4,48):=by kernel_rfl
structure Ju (w:X)(tE:Nat)(b:av)(at_:Nat)(ao:ak)(ca:Nat)(l:List Jn.E)(W:X):Prop where
 ens:mV W (fun k=>w.heap.size<=k) tE ao ca l
 le:at_<=b.length
 few:l.length<=at_
 dec:Jn.dec b=(l++(Jn.dec (b.drop at_)).1,at_+(Jn.dec (b.drop at_)).2)
 below:Below w.heap.size w W
theorem Ju.start (w:X)(a:Nat)(b:av):Ju w a b 0 U 0 [] w:=⟨mV.nil _ _ _,aA _,aM _,by simp,eY _ _⟩
theorem Ju.stop {w:X}{a:Nat}{b:av}{at_:Nat}{ao:ak}{c:Nat}{l:List Jn.E}{W:X}(h:Ju w a b at_ ao c l W)(d:Jn.one (b.drop at_)=U):Jn.dec b=(l,at_):=by
 rw[h.dec,Jn.uY d];simp
theorem Ju.more {w:X}{a:Nat}{b:av}{at_:Nat}{ao:ak}{f:Nat}{l:List Jn.E}{W W':X}(h:Ju w a b at_ ao f l W){e:Jn.E}{s:Nat}(d:Jn.one (b.drop at_)=M (e,s)){gJ:ak}{BS:Nat}(g:mV W' (fun k=>w.heap.size<=k) a gJ BS (l++[e]))(i:Below w.heap.size w W'):Ju w a b (at_+s) gJ BS (l++[e]) W':=by
 have c:=Jn.one_le d;rw[bT] at c;have j:=h.le;have m:=h.few;refine⟨g,by omega,by rw[aV];simp;omega,?_,i⟩;rw[h.dec,Jn.CQ d,List.drop_drop];simp only[dO,dR,dx,bJ]
def QW (w:X)(tE:Nat)(b:av)(e:Ending)(w':X):Prop:=∃ao ca,e=Y (.tuple #[Z ao (Jn.dec b).1.length ca,I J ((Jn.dec b).2:Int)])∧mV w' (fun k=>w.heap.size<=k) tE ao ca (Jn.dec b).1∧Below w.heap.size w w'
theorem Ml (b:av)(ao:ak)(cap n:Nat)(w:X)(hB:gN w ao cap b)(hn:b.length=n)(hN:n<=1000000000):
 Calls prog 105 #[Z ao n cap] w fun e w'=>QW w 226 b e w':=by
 have HI:Hid (∀W,Below w.heap.size w W->gN W ao cap b):=fun W hW=>hB.stay hW;have hcap:=hB.1;obtain⟨j0,H,L,N,T⟩:=info_parts Z7;have Hj:=H9 H;have NQ:=H9 L;have NR:=H9 N;have NS:=H9 T
 clear hB H L N T;go_enter func105,ntmps105;go_wp2;go_loopw [4,5] (fun vl va wr=>∃(k:Nat) (ai:ak) (ci:Nat) (l:List Jn.E) (m:Nat),l.length=m∧vl=Z ai m ci∧va=I J k∧Ju w 226 b k ai ci l wr) (fun _ va _=>n-(intOf va).toNat)
 case atStart=>exact⟨0,U,0,[],0,rfl,rfl,rfl,Ju.start w _ b⟩
 case round =>
  obtain⟨k,ai,ci,l,m,hm,rfl,rfl,hD⟩:=hrel;have x:=H9 hD;have hk:=hD.le;have mO:=hD.few;clear hD;have hk1:(k:Int)<=n:=by omega
  have hk2:(k:Int)<=cap:=by omega
  have RX:Hid (∀u,(cap≠k->u=ao.map (·.add k))->gN wr u (cap-k) (b.drop k)):=fun u B=>by
   have g:=(HI.o wr x.o.below).cut (gJ:=u) k b.length (by omega) (aM _) B;rwa[dJ (by rw[bT];omega)] at g
  cases y:Jn.one (b.drop k) with
  | none =>
    have HX:=H9 (x.o.stop y);have i:Hid (∀u,(cap≠k->u=ao.map (·.add k))->Calls prog 155 #[Z u (n-k) (cap-k)] wr fun e w'=>e=Y (.tuple #[.agg #[I J 0,I J 0,I J 0,Z U 0 0],I J 0])∧Below wr.heap.size wr w'):=fun u B=>(xL (b.drop k) u (cap-k) (n-k) wr (RX.o u B) (by rw[bT,hn]) (by omega)).mono fun e w' h=>by
     cases h with
     | no g h2=>exact⟨rfl,h2⟩
     | yes q s c d g _ _=>rw[y] at g;cases g
    clear y RX;have z:Hid (∀f,Below wr.heap.size wr f->QW w 226 b (Y (.tuple #[Z ai m ci,I J (k:Int)])) (f.alloc (K #[I J 0,I J 0,I J 0,Z U 0 0] 226))):=fun f a=>by
     have hb4:=a.alloc a.size (K #[I J 0,I J 0,I J 0,Z U 0 0] 226);exact⟨ai,ci,by rw[HX.o,hm],by rw[HX.o];exact x.o.ens.stay hb4,then_ x.o.below hb4⟩
    by_cases C:cap=k
    . have D:=i.o ao (fun e=>absurd C e);have hnk:n-k=0:=by omega
      have ae3:cap-k=0:=by omega
      rw[hnk,ae3] at D;have G:=H9 D;clear D i;obtain rfl:n=k:=by omega
      subst C;clear hnk ae3;go_wp2_with (go_at_call 155;refine G.o.mono ?_;rintro e f ⟨rfl,a⟩;have r:=H9 a;clear a)
      go_ret2;exact z.o f r.o
    . have G:=H9 (i.o _ (fun _=>rfl));clear i;go_wp2_with (go_at_call 155;refine G.o.mono ?_;rintro e f ⟨rfl,a⟩;have r:=H9 a;clear a)
      go_ret2;exact z.o f r.o
  | some p =>
    obtain⟨q,s⟩:=p;have hle:=Jn.one_le y;rw[bT] at hle;have C:¬cap=k:=by omega
    have HM:=H9 (fun W' gJ BS hE hb=>x.o.more (W':=W') (gJ:=gJ) (BS:=BS) y hE hb);have i:Hid (Calls prog 155 #[Z (ao.map (·.add k)) (n-k) (cap-k)] wr fun e w'=>∃c d,e=Y (.tuple #[.agg #[I J q.kind,I J q.id,I J q.n,Z c q.text.length d],I J (s:Int)])∧jI w' (fun k=>wr.heap.size<=k) c d q.text∧Below wr.heap.size wr w'):=(xL (b.drop k) _ (cap-k) (n-k) wr (RX.o _ (fun _=>rfl)) (by rw[bT,hn]) (by omega)).mono fun e w' h=>by
     cases h with
     | no g h2=>rw[y] at g;cases g
     | yes q' s' c d g h2 h3 =>
       rw[y] at g;injection g with g;injection g with h4 h5;subst h4;subst h5;exact⟨c,d,rfl,h2,h3⟩
    clear y RX;have ts:((s:Int)==0)=F:=by rw[aR];omega
    have HQn:Hid (∃v,q.text.length=v):=⟨_,rfl⟩;generalize hqn:q.text.length=v at *;go_upto_region 6 with (go_at_call 155;refine i.o.mono ?_;rintro e f ⟨c,d,rfl,Qk,a⟩;have r:=H9 a;have HI3:=H9 Qk;clear a Qk)
    have jc:Below f.heap.size f (f.alloc (K #[I J q.kind,I J q.id,I J q.n,Z c v d] 226)):=(eY _ f).alloc (aM _) _;have hq4:=eX f (K #[I J q.kind,I J q.id,I J q.n,Z c v d] 226);have HI4:Hid (jI (f.alloc (K #[I J q.kind,I J q.id,I J q.n,Z c v d] 226)) (fun k=>wr.heap.size<=k) c d q.text):=HI3.o.turns (Turns.of_below (S:=fun _=>False) jc) (fun _ _ e=>e);have kr:Hid (Below wr.heap.size wr (f.alloc (K #[I J q.kind,I J q.id,I J q.n,Z c v d] 226))):=then_ r.o jc;clear jc;generalize f.alloc (K #[I J q.kind,I J q.id,I J q.n,Z c v d] 226)=w4 at *;generalize f.heap.size=gq at *;obtain⟨⟨k0,k1,k2,k3⟩,_⟩:=uq hq4;obtain⟨xs,hO,hP⟩:=((x.o.ens.mono (S':=fun k=>w.heap.size<=k∧k<wr.heap.size) (fun j hj e=>⟨e,hj⟩)).stay kr.o).push (K #[I J q.kind,I J q.id,I J q.n,Z c v d] 226);have WT:Hid (ji (w4.alloc (K #[I J q.kind,I J q.id,I J q.n,Z c v d] 226)) (M ⟨w4.heap.size,0,U⟩) 1 1 (RV q ⟨c,d⟩)):=by
     have:=ji.made w4 #[I J q.kind,I J q.id,I J q.n,Z c v d] 1 226 (0,0);rw[<-hqn] at this ⊢;exact this
    rw[hm] at hO hP;have HO:=H9 hO;have HP:=H9 hP
    have HN:Hid (m+1<=9223372036854775807∧(m+1)*48<=140737488355328):=⟨by omega,by omega⟩;have hz:=x.o.below.size;have hwk:IntKind.i64.wrap ((k:Int)+s)=(k:Int)+s:=ko (by omega) (by omega);clear hq4 hO hP;go_wp2_with (at_builtin;refine gP rfl (.tmp 19) (.tmp 21) 179 rfl 0 226 j0 (.agg #[I J 0,I J 0,I J 0,Z U 0 0]) 4 48 underlying179 Hj.o NQ.o NR.o NS.o rfl (by decide) rfl HO.o rfl WT.o rfl (Zf _ _) HN.o.1 HN.o.2 (aA _) ?_;intro xY t w5 vX IL qg;obtain⟨hU5,wm⟩:=HP.o xY t w5 q ⟨c,d⟩ (fun j=>wr.heap.size<=j) HI4.o (fun j e h=>by omega) vX IL qg;have HU5:=H9 hU5;have Tt:=H9 wm;clear vX IL qg hU5 wm)
    go_roundw
    case rel =>
     have hz4:=kr.o.size;refine⟨k+s,xY,t,l++[q],m+1,by rw[aV,hm];rfl,rfl,by go_num,HM.o w5 xY t (HU5.o.mono (fun j _ e=>?_)) ((then_ x.o.below kr.o).trans (Tt.o.below (fun j e=>e.1) (by omega)))⟩;rcases e with e | e | e
     . exact e.1
     . omega
     . omega
    case measure=>simp[intOf];omega
end Go.Proofs.YthhklgjjnaeaoaaGreatDoor