import Derived.Deep.RegionWith
import Derived.Test.YtmbghcpcbdjfoaaGreatDoorPk21
import Derived.Test.YtmbghcpcbdjfoaaGreatDoorPk28
open Go.Value renaming int->I,slice->Z,pointer->Q
open Go.IntKind renaming i64->J
open Go.Obj renaming cells->K
open Go.Ending renaming returned->Y
open Option renaming none->U,some->M
open Bool renaming false->F
open Go renaming World->X
set_option maxHeartbeats 2000000
set_option maxRecDepth 100000
open Go.Proofs.Tryz
namespace Go.Proofs.YtmbghcpcbdjfoaaGreatDoor
open Go.RowKit
theorem CI (n:Int)(w:X):Calls prog 280 #[I J n] w fun e w'=>e=Y (.bool (decide (-1<=n)&&decide (n<=1073741823)))∧w'=w:=by
 by_cases a:-1<=n
 . by_cases b:n<=1073741823
   . go_enter func280,ntmps280;go_wp2;go_ret;exact⟨dS (by simp[a,b]),rfl⟩
   . have c:Hid (decide (n<=1073741823)=F):=aW b;go_enter func280,ntmps280;go_wp2;go_ret;exact⟨dS (by rw[c.o];try simp),rfl⟩
 . have d:Hid (decide (-1<=n)=F):=aW a;go_enter func280,ntmps280;go_wp2;go_ret;exact⟨dS (by rw[d.o];rfl),rfl⟩
theorem Ub (e:aK):dg e=(decide (1<=e.b)&&(decide (e.b<=6)&&((decide (-1<=e.a)&&decide (e.a<=1073741823))&&((decide (-1<=e.n)&&decide (e.n<=1073741823))&&decide (e.c.length<=1048575))))):=by
 simp only[dg,Bool.and_assoc]
theorem EV (x:aK)(q:ai)(j r:Nat)(v:x.c.length=j)(w:X):Calls prog 247 #[.agg #[I J x.b,I J x.a,I J x.n,Z q j r]] w fun e w'=>e=Y (.bool (dg x))∧Below w.heap.size w w':=by
 have d:=aa (Ub x);have l:Hid (Below w.heap.size w (w.alloc (K #[I J x.b,I J x.a,I J x.n,Z q j r] 223))):=(aq _ w).alloc (ak _) _;have c:=aa (fun W=>CI x.a W);have g:=aa (fun W=>CI x.n W);rw[v] at d;generalize dg x=f at *;generalize x.b=k at *;generalize x.a=i at *;generalize x.n=n at *;generalize (decide (-1<=i)&&decide (i<=1073741823))=y at *;generalize (decide (-1<=n)&&decide (n<=1073741823))=z at *;by_cases s:1<=k
 . by_cases t:k<=6
   . cases y with
     | true =>
       cases z with
       | true =>
         by_cases u:j<=1048575
         . have p:(j:Int)<=1048575:=by omega
           go_enter func247,ntmps247;go_wp2_with (first
            | (go_at_call_of 280 i;refine(c.o _).mono ?_;rintro e m ⟨rfl,a⟩;rw[a];clear a)
            | (go_at_call_of 280 n;refine(g.o _).mono ?_;rintro e m ⟨rfl,a⟩;rw[a];clear a))
           go_ret;exact⟨dS (by rw[d.o];simp[s,t,u]),l.o⟩
         . have p:¬(j:Int)<=1048575:=by omega
           have b:f=F:=by have:=d.o;rw[aW u] at this;simpa using this
           go_enter func247,ntmps247;go_wp2_with (first
            | (go_at_call_of 280 i;refine(c.o _).mono ?_;rintro e m ⟨rfl,a⟩;rw[a];clear a)
            | (go_at_call_of 280 n;refine(g.o _).mono ?_;rintro e m ⟨rfl,a⟩;rw[a];clear a))
           go_ret;exact⟨by rw[b];simp;omega,l.o⟩
       | false =>
         go_enter func247,ntmps247;go_wp2_with (first
          | (go_at_call_of 280 i;refine(c.o _).mono ?_;rintro e m ⟨rfl,a⟩;rw[a];clear a)
          | (go_at_call_of 280 n;refine(g.o _).mono ?_;rintro e m ⟨rfl,a⟩;rw[a];clear a))
         go_ret;exact⟨dS (by rw[d.o];simp),l.o⟩
     | false =>
       go_enter func247,ntmps247;go_wp2_with (go_at_call 280;refine(c.o _).mono ?_;rintro e m ⟨rfl,a⟩;rw[a];clear a)
       go_ret;exact⟨dS (by rw[d.o];simp),l.o⟩
   . have b:Hid (f=F):=by unfold Hid;have:=d.o;rw[aW t] at this;simpa using this
     go_enter func247,ntmps247;go_wp2;go_ret;exact⟨dS b.o.symm,l.o⟩
 . have b:Hid (f=F):=by unfold Hid;have:=d.o;rw[aW s] at this;simpa using this
   go_enter func247,ntmps247;go_wp2;go_ret;exact⟨dS b.o.symm,l.o⟩
inductive nY (b:ae):Nat->ae->Int->Int->Int->Prop
 | zero:nY b 0 b 0 0 0
 | one {x s}:dp b=M (x,s)->nY b 1 (b.drop s) x 0 0
 | two {x s y t}:dp b=M (x,s)->dp (b.drop s)=M (y,t)->nY b 2 ((b.drop s).drop t) x y 0
 | three {x s y t z u}:dp b=M (x,s)->dp (b.drop s)=M (y,t)->dp ((b.drop s).drop t)=M (z,u)->nY b 3 (((b.drop s).drop t).drop u) x y z
theorem nY.d {b a:ae}{i:Nat}{x y z:Int}(h:nY b i a x y z):a.length<=b.length:=by
 cases h <;> (try simp only[bV]) <;> omega
theorem nY.f {b d:ae}{i:Nat}{x y z:Int}(h:nY b i d x y z)(f:i<3)(a:dp d=U):iT b=U:=by
 cases h with
 | zero=>unfold iT;rw[a]
 | one c=>unfold iT;rw[c];simp only;rw[a]
 | two c e=>unfold iT;rw[c];simp only;rw[e];simp only;rw[a]
 | three=>omega
theorem nY.a {b a:ae}{x y z:Int}(h:nY b 3 a x y z):iT b=if dg ⟨x,y,z,a⟩=true then M ⟨x,y,z,a⟩ else U:=by
 cases h with
 | three c d e=>unfold iT;rw[c];simp only;rw[d];simp only;rw[e]
def Cd (i:Nat)(v x y z:Int):Int×Int×Int:=match i with
 | 0=>(v,y,z)
 | 1=>(x,v,z)
 | _=>(x,y,v)
theorem nY.e {b a:ae}{i:Nat}{x y z v:Int}{s:Nat}(h:nY b i a x y z)(f:i<3)(c:dp a=M (v,s)):nY b (i+1) (a.drop s) (Cd i v x y z).1 (Cd i v x y z).2.1 (Cd i v x y z).2.2:=by
 cases h with
 | zero=>exact .one c
 | one d=>exact .two d c
 | two d e=>exact .three d e c
 | three=>omega
theorem El {b:ae}(h:dp b=U):pD b=(0,0):=by unfold pD;rw[h]
theorem Em {b:ae}{x:Int}{s:Nat}(h:dp b=M (x,s)):pD b=(x,s):=by unfold pD;rw[h]
structure qO (w:X)(x y z:Int)(W:X):Prop where
 a:W.heap[w.heap.size]? = M (K #[I J 0,I J 0,I J 0,Z U 0 0] 223 (0,0))
 c:W.heap[w.heap.size+1]? = M (K #[I J x,I J y,I J z] 232 (0,0))
 below:Below w.heap.size w W
 b:W.heap.size=w.heap.size+2
inductive xq (w:X)(b:ae):Ending->X->Prop
 | no {w'}:iT b=U->Below w.heap.size w w'->xq w b (Y (.tuple #[.agg #[I J 0,I J 0,I J 0,Z U 0 0],.bool F])) w'
 | yes {w'} (e:aK) (ta:ai) (tc:Nat):iT b=M e->dO w' (fun k=>w.heap.size<=k) ta tc e.c->Below w.heap.size w w'->xq w b (Y (.tuple #[.agg #[I J e.b,I J e.a,I J e.n,Z ta e.c.length tc],.bool true])) w'
theorem qO.f {w W:X}{x y z:Int}(h:qO w x y z W)(v:Int):qO w v y z (W.setCell ⟨w.heap.size+1,0,U⟩ (I J v)).drew:=by
 have b:=h.b;have a:al (fun k=>k=w.heap.size+1) W (W.setCell ⟨w.heap.size+1,0,U⟩ (I J v)):=al.f _ W _ _ rfl;exact⟨a.j h.a (by omega),aQ W _ 0 _ _ _ h.c,(h.below.trans (a.below (fun k e=>by omega) (by omega))).trans (bA _ _),by show(W.setCell _ _).heap.size=_;simp[World.setCell,b]⟩
theorem qO.e {w W:X}{x y z:Int}(h:qO w x y z W)(v:Int):qO w x v z (W.setCell ⟨w.heap.size+1,1,U⟩ (I J v)).drew:=by
 have b:=h.b;have a:al (fun k=>k=w.heap.size+1) W (W.setCell ⟨w.heap.size+1,1,U⟩ (I J v)):=al.f _ W _ _ rfl;exact⟨a.j h.a (by omega),aQ W _ 1 _ _ _ h.c,(h.below.trans (a.below (fun k e=>by omega) (by omega))).trans (bA _ _),by show(W.setCell _ _).heap.size=_;simp[World.setCell,b]⟩
theorem qO.d {w W:X}{x y z:Int}(h:qO w x y z W)(v:Int):qO w x y v (W.setCell ⟨w.heap.size+1,2,U⟩ (I J v)).drew:=by
 have b:=h.b;have a:al (fun k=>k=w.heap.size+1) W (W.setCell ⟨w.heap.size+1,2,U⟩ (I J v)):=al.f _ W _ _ rfl;exact⟨a.j h.a (by omega),aQ W _ 2 _ _ _ h.c,(h.below.trans (a.below (fun k e=>by omega) (by omega))).trans (bA _ _),by show(W.setCell _ _).heap.size=_;simp[World.setCell,b]⟩
theorem KN (b:ae)(ao:ai)(cap n:Nat)(w:X)(hB:ay w ao cap b)(hn:b.length=n)(hN:n<=1000000000):
 Calls prog 209 #[Z ao n cap] w fun e w'=>xq w b e w':=by
 have HI:∀W,Below w.heap.size w W->ay W ao cap b:=fun W hW=>hB.a hW;have XD:0<b.length->∀k,au ao=M k->k<w.heap.size:=fun h0 k e=>by
  obtain⟨d,g,rfl,hc⟩:=hB.j h0;injection e with e;subst e;exact bI w _ (hc 0 h0)
 go_enter func209,ntmps209;go_wp2;have HM0:qO w 0 0 0 ((w.alloc (K #[I J 0,I J 0,I J 0,Z U 0 0] 223)).alloc (K #[I J 0,I J 0,I J 0] 232)):=by
  refine⟨?_,?_,((aq _ w).alloc (ak _) _).alloc (by simp) _,by simp⟩
  . rw[Below.heap_alloc _ _ _ (by simp)];exact bw w _
  . have:=bw (w.alloc (K #[I J 0,I J 0,I J 0,Z U 0 0] 223)) (K #[I J 0,I J 0,I J 0] 232);rw[ch] at this;exact this
 generalize ((w.alloc (K #[I J 0,I J 0,I J 0,Z U 0 0] 223)).alloc (K #[I J 0,I J 0,I J 0] 232))=w1 at *;go_loopw [0,9] (fun vb vi wr=>∃(i f c:Nat) (u:ai) (j:ae) (x y z:Int),i<=3∧vb=Z u f c∧vi=I J i∧nY b i j x y z∧ay wr u c j∧j.length=f∧au u=au ao∧qO w x y z wr) (fun _ vi _=>3-(intOf vi).toNat)
 case atStart=>exact⟨0,n,cap,ao,b,0,0,0,by omega,rfl,rfl,.zero,HI _ HM0.below,hn,rfl,HM0⟩
 case round =>
  obtain⟨i,f,c,u,j,x,y,z,hi,rfl,rfl,hA,hBi,t,hbl,hM⟩:=hrel;have HA:=hA;have C:=aa hBi;have HM:=aa hM
  have hle:=hA.d;have HR:=IP j u c f wr hBi t (by omega);have hci:=hBi.1;have c0:=iZ hM.a;obtain⟨⟨d0,d1,d2⟩,e0,e1,e2⟩:=wk hM.c;by_cases hlt:i<3
  . cases hr:dp j with
    | none =>
      rw[El hr] at HR;have HX:=HA.f hlt hr;have hlt':(i:Int)<3:=by omega
      go_wp2_with (go_at_call 208;refine HR.mono ?_;rintro e r ⟨rfl,D⟩;rw[D];clear D)
      obtain⟨q,GV⟩:=qN HM.o.a (I J 0) (I J 0) (I J 0) (Z U 0 0);generalize ((((wr.setCell ⟨w.heap.size,0,U⟩ (Value.int J 0)).setCell ⟨w.heap.size,1,U⟩ (Value.int J 0)).setCell ⟨w.heap.size,2,U⟩ (Value.int J 0)).setCell ⟨w.heap.size,3,U⟩ (Value.slice U 0 0))=m at q GV ⊢;obtain⟨⟨r0,r1,r2,r3⟩,_⟩:=iZ q;refine aR (v:=.tuple #[.agg #[I J 0,I J 0,I J 0,Z U 0 0],.bool F]) (by simp[results,results209,go_sem,r0,r1,r2,r3]) rfl (.no HX (HM.o.below.trans (GV.below (fun k e=>by omega) (by have:=HM.o.b;omega))))
    | some p =>
      obtain⟨v,s⟩:=p;rw[Em hr] at HR;have HX:=HA.e hlt hr;have hrl:=xK hr;obtain⟨d,g,rfl,hcs⟩:=C.o.j (by omega);have XE:Hid (∀a,(if c=s then M (⟨d,g,U⟩:Addr) else M ⟨d,g+s,U⟩)=M a->¬a.block=w.heap.size+1):=fun a e=>by
       have hbb:d≠w.heap.size+1:=fun e=>by have:=XD (by omega) d hbl.symm;omega
       split at e <;> (injection e with e;subst e;exact hbb)
      have HBk:Hid (au (if c=s then M (⟨d,g,U⟩:Addr) else M ⟨d,g+s,U⟩)=au ao):=by
       unfold Hid;rw[<-hbl];split <;> rfl
      have hlt':(i:Int)<3:=by omega
      have ts:((s:Int)==0)=F:=by rw[aO];omega
      have s1:(s:Int)<=f:=by omega
      have s2:(s:Int)<=c:=by omega
      rcases(show i=0∨i=1∨i=2 by omega) with rfl | rfl | rfl
      . have G:=aa (HM.o.f v);have H:ay (wr.setCell ⟨w.heap.size+1,0,U⟩ (I J v)).drew (if c=s then M ⟨d,g,U⟩ else M ⟨d,g+s,U⟩) (c-s) (j.drop s):=by
         have L:=C.o.f (gQ:=if c=s then M ⟨d,g,U⟩ else M ⟨d,g+s,U⟩) s j.length (by omega) (ak _) (fun e=>by rw[if_neg e];simp[Addr.add_lit]);rw[jy (by rw[bV];omega)] at L;have ht:al (fun k=>k=w.heap.size+1) wr (wr.setCell ⟨w.heap.size+1,0,U⟩ (I J v)):=al.f _ wr _ _ rfl;exact(L.e ht (fun a e=>XE.o a e)).a (bA _ _)
        go_wp2_with (go_at_call 208;refine HR.mono ?_;rintro e r ⟨rfl,D⟩;rw[D];clear D)
        go_region
        generalize (wr.setCell ⟨w.heap.size+1,0,U⟩ (Value.int J v)).drew=m at *;generalize (if c=s then M (⟨d,g,U⟩:Addr) else M ⟨d,g+s,U⟩)=aj at *;go_wp2;go_roundw
        case rel=>exact⟨1,f-s,c-s,aj,j.drop s,v,y,z,by omega,rfl,by go_num,HX,H,by rw[bV,t],HBk.o,G.o⟩
        case measure=>first | (simp[intOf];done) | (simp[intOf];omega)
      . have G:=aa (HM.o.e v);have H:ay (wr.setCell ⟨w.heap.size+1,1,U⟩ (I J v)).drew (if c=s then M ⟨d,g,U⟩ else M ⟨d,g+s,U⟩) (c-s) (j.drop s):=by
         have L:=C.o.f (gQ:=if c=s then M ⟨d,g,U⟩ else M ⟨d,g+s,U⟩) s j.length (by omega) (ak _) (fun e=>by rw[if_neg e];simp[Addr.add_lit]);rw[jy (by rw[bV];omega)] at L;have ht:al (fun k=>k=w.heap.size+1) wr (wr.setCell ⟨w.heap.size+1,1,U⟩ (I J v)):=al.f _ wr _ _ rfl;exact(L.e ht (fun a e=>XE.o a e)).a (bA _ _)
        go_wp2_with (go_at_call 208;refine HR.mono ?_;rintro e r ⟨rfl,D⟩;rw[D];clear D)
        go_region
        generalize (wr.setCell ⟨w.heap.size+1,1,U⟩ (Value.int J v)).drew=m at *;generalize (if c=s then M (⟨d,g,U⟩:Addr) else M ⟨d,g+s,U⟩)=aj at *;go_wp2;go_roundw
        case rel=>exact⟨2,f-s,c-s,aj,j.drop s,x,v,z,by omega,rfl,by go_num,HX,H,by rw[bV,t],HBk.o,G.o⟩
        case measure=>first | (simp[intOf];done) | (simp[intOf];omega)
      . have G:=aa (HM.o.d v);have H:ay (wr.setCell ⟨w.heap.size+1,2,U⟩ (I J v)).drew (if c=s then M ⟨d,g,U⟩ else M ⟨d,g+s,U⟩) (c-s) (j.drop s):=by
         have L:=C.o.f (gQ:=if c=s then M ⟨d,g,U⟩ else M ⟨d,g+s,U⟩) s j.length (by omega) (ak _) (fun e=>by rw[if_neg e];simp[Addr.add_lit]);rw[jy (by rw[bV];omega)] at L;have ht:al (fun k=>k=w.heap.size+1) wr (wr.setCell ⟨w.heap.size+1,2,U⟩ (I J v)):=al.f _ wr _ _ rfl;exact(L.e ht (fun a e=>XE.o a e)).a (bA _ _)
        go_wp2_with (go_at_call 208;refine HR.mono ?_;rintro e r ⟨rfl,D⟩;rw[D];clear D)
        go_region
        generalize (wr.setCell ⟨w.heap.size+1,2,U⟩ (Value.int J v)).drew=m at *;generalize (if c=s then M (⟨d,g,U⟩:Addr) else M ⟨d,g+s,U⟩)=aj at *;go_wp2;go_roundw
        case rel=>exact⟨3,f-s,c-s,aj,j.drop s,x,y,v,by omega,rfl,by go_num,HX,H,by rw[bV,t],HBk.o,G.o⟩
        case measure=>first | (simp[intOf];done) | (simp[intOf];omega)
  . obtain rfl:i=3:=by omega
    have HE:=HA.a;have hs:=HM.o.b;have D8:Below wr.heap.size wr (wr.alloc (K #[I J x,I J y,I J z,Z u f c] 223)):=(aq _ wr).alloc (ak _) _;have HF:=fun W=>EV ⟨x,y,z,j⟩ u f c t W;dsimp only at HF;have hs2:(wr.alloc (K #[I J x,I J y,I J z,Z u f c] 223)).heap.size=w.heap.size+3:=by rw[ch,hs]
    have mX:∀W,Below (w.heap.size+3) (wr.alloc (K #[I J x,I J y,I J z,Z u f c] 223)) W->W.heap[w.heap.size]? = M (K #[I J 0,I J 0,I J 0,Z U 0 0] 223 (0,0))∧W.heap[w.heap.size+2]? = M (K #[I J x,I J y,I J z,Z u f c] 223 (0,0))∧ay W u c j∧Below w.heap.size w W:=fun W hW=>by
     refine⟨(hW.block _ (by omega)).trans ((Below.heap_alloc _ _ _ (by omega)).trans HM.o.a),(hW.block _ (by omega)).trans ?_,C.o.a (D8.trans (hW.mono (by omega))),HM.o.below.trans ((D8.trans (hW.mono (by omega))).mono (by omega))⟩;have:=bw wr (K #[I J x,I J y,I J z,Z u f c] 223);rw[hs] at this;exact this
    have Vj:=HF (wr.alloc (K #[I J x,I J y,I J z,Z u f c] 223));rw[hs2] at Vj;have hnn:f<=1000000000:=by omega
    cases hf:dg ⟨x,y,z,j⟩ with
    | false =>
      have HN:iT b=U:=by rw[HE,if_neg (by simp[hf])]
      rw[hf] at Vj;go_upto_region 12 with (go_at_call 247;refine Vj.mono ?_;rintro e r ⟨rfl,N⟩;have HB3:=aa N;clear N)
      obtain⟨hr3,_,_,hb⟩:=mX r HB3.o;have a0:=iZ hr3;go_wp2;obtain⟨q,GV⟩:=qN hr3 (I J 0) (I J 0) (I J 0) (Z U 0 0);generalize ((((r.setCell ⟨w.heap.size,0,U⟩ (Value.int J 0)).setCell ⟨w.heap.size,1,U⟩ (Value.int J 0)).setCell ⟨w.heap.size,2,U⟩ (Value.int J 0)).setCell ⟨w.heap.size,3,U⟩ (Value.slice U 0 0))=m at q GV ⊢;obtain⟨⟨r0,r1,r2,r3⟩,_⟩:=iZ q;refine aR (v:=.tuple #[.agg #[I J 0,I J 0,I J 0,Z U 0 0],.bool F]) (by simp[results,results209,go_sem,r0,r1,r2,r3]) rfl (.no HN (hb.trans (GV.below (fun k e=>by omega) hb.size)))
    | true =>
      have HY:iT b=M ⟨x,y,z,j⟩:=by rw[HE,if_pos hf]
      rw[hf] at Vj;obtain⟨i0,hi0,hz0,hz1,hz2⟩:=info_parts il;have Hi:=hi0;have kT:=aa hz0;have kL:=aa hz1;have kU:=aa hz2
      go_upto_region 13 with (go_at_call 247;refine Vj.mono ?_;rintro e r ⟨rfl,N⟩;have HB3:=aa N;clear N)
      obtain⟨hr3,hq3,Ze,hb⟩:=mX r HB3.o;have hz3:w.heap.size+3<=r.heap.size:=by have:=HB3.o.size;omega
      have Qn:∀m,al (fun k=>ct [] U=M k) r m->Below r.heap.size r m∧(m.heap[w.heap.size]? = M (K #[I J 0,I J 0,I J 0,Z U 0 0] 223 (0,0))∧m.heap[w.heap.size+2]? = M (K #[I J x,I J y,I J z,Z u f c] 223 (0,0))):=fun m ht=>by
       have B:Below r.heap.size r m:=ht.below (fun k e=>by simp[ct] at e) (ak _);exact⟨B,(B.block _ (by omega)).trans hr3,(B.block _ (by omega)).trans hq3⟩
      go_upto_region 14 with (at_builtin;refine yH (S:=fun _=>False) rfl (.const (Z U 0 0)) (.tmp 39) 31 rfl 5 i0 underlying31 Hi kT.o kL.o kU.o (l:=[]) rfl rfl (bM.d _ _ _) rfl Ze t (by omega) ?_;intro T XG m hO4 yA;obtain⟨B,q,hq4⟩:=Qn m yA;have HR4:=aa q;have HQ4:=aa hq4;obtain⟨⟨k0,k1,k2,k3⟩,l0,l1,l2,l3⟩:=iZ hq4;have kF:=aa B;have Tg:=aa hO4;clear hO4 yA B q hq4)
      have D9:al (fun k=>k=w.heap.size+2) m (m.setCell ⟨w.heap.size+2,3,U⟩ (Z T f XG)):=al.f _ m _ _ rfl;have hq5:=aQ m (w.heap.size+2) 3 _ _ (Z T f XG) HQ4.o;have qd:=D9.j HR4.o (by omega);have AL:dO (m.setCell ⟨w.heap.size+2,3,U⟩ (Z T f XG)) (fun k=>r.heap.size<=k) T XG j:=by
       have L:=Tg.o;rw[jo] at L;refine(L.r.a (S':=fun k=>r.heap.size<=k) (fun k _ e=>?_)).d D9 (fun k e e2=>by omega);rcases e with e | e
       . simp[ct] at e
       . exact e
      have oP:Below w.heap.size w (m.setCell ⟨w.heap.size+2,3,U⟩ (Z T f XG)):=(hb.trans (kF.o.mono (by omega))).trans (D9.below (fun k e=>by omega) (by have:=kF.o.size;omega));generalize m.setCell ⟨w.heap.size+2,3,U⟩ (Z T f XG)=w5 at *;obtain⟨⟨m0,m1,m2,m3⟩,_⟩:=iZ hq5;have p0:=iZ qd;go_wp2;obtain⟨yL,ht6⟩:=qN qd (I J x) (I J y) (I J z) (Z T f XG);generalize ((((w5.setCell ⟨w.heap.size,0,U⟩ (Value.int J x)).setCell ⟨w.heap.size,1,U⟩ (Value.int J y)).setCell ⟨w.heap.size,2,U⟩ (Value.int J z)).setCell ⟨w.heap.size,3,U⟩ (Value.slice T f XG))=w6 at yL ht6 ⊢;obtain⟨⟨r0,r1,r2,r3⟩,_⟩:=iZ yL;have hy:=xq.yes (w:=w) (b:=b) (w':=w6) ⟨x,y,z,j⟩ T XG HY ((AL.d ht6 (fun k e e2=>by omega)).a (fun k _ e=>by omega)) (oP.trans (ht6.below (fun k e=>by omega) oP.size));dsimp only at hy;rw[t] at hy;refine aR (v:=.tuple #[.agg #[I J x,I J y,I J z,Z T f XG],.bool true]) (by simp[results,results209,go_sem,r0,r1,r2,r3]) rfl hy
structure dP (w:X)(base g:Nat)(b:ae)(sure:Nat)(ao:ai)(ca:Nat):Prop where
 a:w.heap[g]? = M (K #[Z ao b.length ca,I J (sure:Int)] 141 (0,0))
 c:bC w base 5 ao ca b
 e:base<=g
 h:sure<=b.length
 d:b.length<=100000
theorem cX {W:X}{g t:Nat}{a b:Value}(h:W.heap[g]? = M (K #[a,b] t (0,0))):(W.cell? ⟨g,0,U⟩=M a∧W.cell? ⟨g,1,U⟩=M b)∧(W.frozen? ⟨g,0,U⟩=F∧W.frozen? ⟨g,1,U⟩=F) :=
 ⟨⟨am W g 0 _ _ _ h,am W g 1 _ _ _ h⟩,aD W g 0 _ _ h,aD W g 1 _ _ h⟩
section
variable {w w':X} {base g:Nat} {b:ae} {sure:Nat} {ao:ai} {ca:Nat}
theorem dP.q (h:dP w base g b sure ao ca)(a:Below w.heap.size w w'):dP w' base g b sure ao ca:=⟨(a.block g (bH.1 h.a).1).trans h.a,h.c.B a,h.e,h.h,h.d⟩
theorem dP.f (h:dP w base g b sure ao ca):g<w.heap.size:=(bH.1 h.a).1
theorem UE:(141:Nat)≠5:=by decide
theorem dP.j (h:dP w base g b sure ao ca):∀a,ao=M a->a.block≠g:=by
 intro a e c;have:=iJ h.a h.c UE;rw[dI,e] at this;exact this (by rw[<-c];rfl)
theorem Oz (w:X):Calls prog 32 #[] w fun e w'=>e=Y (Q (M ⟨w.heap.size,0,U⟩))∧dP w' w.heap.size w.heap.size [] 0 U 0∧Below w.heap.size w w':=by
 have H:Hid (dP (w.alloc (K #[Z U 0 0,I J 0] 141)) w.heap.size w.heap.size [] 0 U 0∧Below w.heap.size w (w.alloc (K #[Z U 0 0,I J 0] 141))) :=
  ⟨⟨bw w _,bC.e _ _ _,ak _,ak _,by decide⟩,(aq _ w).alloc (ak _) _⟩
 go_enter func32,ntmps32;go_wp2;go_ret;exact⟨rfl,H.o⟩
theorem Cz (h:dP w base g b sure ao ca)(n:Int):Calls prog 224 #[Q (M ⟨g,0,U⟩),I J n] w fun e w'=>e=Y (.bool (decide (0<=n)&&decide (n<=100000-(b.length:Int))))∧w'=w:=by
 have f:=cX h.a;have i:=h.d;have j:IntKind.i64.wrap (100000-(b.length:Int))=100000-(b.length:Int):=iY (by omega) (by omega);generalize b.length=m at *;by_cases c:0<=n
 . by_cases d:n<=100000-(m:Int)
   . have a:(decide (0<=n)&&decide (n<=100000-(m:Int)))=true:=by rw[aV c,aV d];rfl
     generalize (decide (0<=n)&&decide (n<=100000-(m:Int)))=r at *;go_enter func224,ntmps224;go_wp2;go_ret;exact⟨by rw[a];first | rfl | simp,rfl⟩
   . have a:Hid ((decide (0<=n)&&decide (n<=100000-(m:Int)))=F):=by unfold Hid;rw[aW d];simp
     generalize (decide (0<=n)&&decide (n<=100000-(m:Int)))=r at *;go_enter func224,ntmps224;go_wp2;go_ret;exact⟨by rw[a.o];first | rfl | (simp;done) | (simp;omega),rfl⟩
 . have a:Hid ((decide (0<=n)&&decide (n<=100000-(m:Int)))=F):=by unfold Hid;rw[aW c];rfl
   generalize (decide (0<=n)&&decide (n<=100000-(m:Int)))=r at *;go_enter func224,ntmps224;go_wp2;go_ret;exact⟨by rw[a.o];first | rfl | simp,rfl⟩
theorem bC.E {t:Nat}(h:bC w base t ao ca b)(n:Nat)(q:n<=b.length):bC w base t ao ca (b.take n):=by
 have i:(b.take n).length=n:=by rw[bP];omega
 have e:bD (b.take n)=(bD b).take n:=by unfold bD;rw[List.map_take]
 unfold bC;rw[i,e];refine⟨by rw[bP,dN];omega,?_⟩;rcases h.2 with ⟨a,r⟩ | ⟨g,f,c,a,j,k,l,m,o,p⟩
 . left;injection a with a _ d;subst a;subst d;have:n=0:=by omega
   subst this;exact⟨rfl,rfl⟩
 . right;injection a with a _ d;subst a;subst d;refine⟨g,ca,c,rfl,j,k,by omega,m,o,?_⟩;rw[<-p,List.take_take];congr 1;omega
theorem Mw (h:dP w base g b sure ao ca):Calls prog 47 #[Q (M ⟨g,0,U⟩)] w fun e w'=>∃gQ DN,e=Y (Z gQ b.length DN)∧ay w' gQ DN b∧Below w.heap.size w w':=by
 obtain⟨⟨p,G⟩,_⟩:=cX h.a;have q:=h.c.a;have r:=h.d;obtain⟨s,c,d,f,i⟩:=info_parts il;have t:=c;have u:=aa d;have v:=aa f;have x:=aa i
 obtain⟨m,j⟩:∃m,b.length=m:=⟨_,rfl⟩;rw[j] at p r;rw[j];go_enter func47,ntmps47;go_wp2_with (at_builtin;refine yH (S:=fun _=>False) rfl (.const (Z U 0 0)) (.tmp 6) 31 rfl 5 s underlying31 t u.o v.o x.o (l:=[]) rfl rfl (bM.d _ _ _) rfl q j (by omega) ?_;intro y z B a n;have C:=aa a.f;have D:Hid (Below w.heap.size w B):=n.below (fun k e=>by simp[ct] at e) (ak _);clear a n)
 go_ret;exact⟨y,z,by first | rfl | simp,by have:=C.o;rwa[jo] at this,D.o⟩
theorem dP.B (h:dP w base g b sure ao ca)(n:Nat)(c:n<=b.length):dP (w.setCell ⟨g,1,U⟩ (I J (n:Int))) base g b n ao ca∧al (fun k=>k=g) w (w.setCell ⟨g,1,U⟩ (I J (n:Int))):=by
 have a:al (fun k=>k=g) w (w.setCell ⟨g,1,U⟩ (I J (n:Int))):=al.f _ w _ _ rfl;exact⟨⟨aQ w g 1 _ _ _ h.a,h.c.f a h.j,h.e,c,h.d⟩,a⟩
theorem Da (h:dP w base g b sure ao ca):Calls prog 148 #[Q (M ⟨g,0,U⟩)] w fun e w'=>e=Y (.tuple #[])∧dP w' base g b b.length ao ca∧al (fun k=>k=g) w w':=by
 obtain⟨⟨c,d⟩,f,i⟩:=cX h.a;have a:=aa (h.B b.length (ak _));clear h;generalize b.length=m at *;go_enter func148,ntmps148;go_wp2;go_end0
 exact⟨rfl,a.o⟩
theorem dP.y (h:dP w base g b sure ao ca)(n:Nat)(d:n<=b.length):dP ((w.setCell ⟨g,0,U⟩ (Z ao n ca)).setCell ⟨g,1,U⟩ (I J ((min sure n:Nat):Int))) base g (b.take n) (min sure n) ao ca∧al (fun k=>k=g) w ((w.setCell ⟨g,0,U⟩ (Z ao n ca)).setCell ⟨g,1,U⟩ (I J ((min sure n:Nat):Int))):=by
 have f:al (fun k=>k=g) w (w.setCell ⟨g,0,U⟩ (Z ao n ca)):=al.f _ w _ _ rfl;have i:al (fun k=>k=g) (w.setCell ⟨g,0,U⟩ (Z ao n ca)) ((w.setCell ⟨g,0,U⟩ (Z ao n ca)).setCell ⟨g,1,U⟩ (I J ((min sure n:Nat):Int))):=al.f _ _ _ _ rfl;have c:=f.a i (fun _ e _=>e);have a:(b.take n).length=n:=by rw[bP];omega
 have j:=aQ _ g 1 _ _ (I J ((min sure n:Nat):Int)) (aQ w g 0 _ _ (Z ao n ca) h.a);refine⟨⟨by rw[a];exact j,(h.c.f c h.j).E n d,h.e,by rw[a];omega,by rw[a];have:=h.d;omega⟩,c⟩
theorem EW (h:dP w base g b sure ao ca)(n:Int)(a:¬(0<=n∧n<b.length)):Calls prog 104 #[Q (M ⟨g,0,U⟩),I J n] w fun e w'=>e=Y (.tuple #[])∧w'=w:=by
 have c:=cX h.a;generalize b.length=m at *;by_cases d:n<0
 . skip;go_enter func104,ntmps104;go_wp2;refine aR (results_none rfl _ _ _) rfl ?_;exact⟨rfl,rfl⟩
 . have f:(m:Int)<=n:=by omega
   go_enter func104,ntmps104;go_wp2;refine aR (results_none rfl _ _ _) rfl ?_;exact⟨rfl,rfl⟩
theorem Dq (h:dP w base g b sure ao ca)(n:Nat)(i:n<b.length):Calls prog 104 #[Q (M ⟨g,0,U⟩),I J (n:Int)] w fun e w'=>e=Y (.tuple #[])∧dP w' base g (b.take n) (min sure n) ao ca∧al (fun k=>k=g) w w':=by
 have j:=cX h.a;have a:=h.y n (by omega);have f:=h.c.a.1;have l:¬(n:Int)<0:=by omega
 have o:¬(b.length:Int)<=n:=by omega
 have p:(n:Int)<=ca:=by omega
 generalize b.length=m at *;have q:(n:Int)<=m:=by omega
 by_cases r:n<sure
 . have c:min sure n=n:=by omega
   have d:(n:Int)<sure:=by omega
   rw[c] at a ⊢;go_enter func104,ntmps104;go_wp2;go_end0
   exact⟨rfl,a⟩
 . have c:min sure n=sure:=by omega
   have d:¬(n:Int)<sure:=by omega
   rw[c] at a ⊢;go_enter func104,ntmps104;go_wp2;go_end0
   exact⟨rfl,a⟩
end
theorem ow (x c:ag)(l:ae)(h:c.data.toList=l):(x=c)<->(x.toList==l)=true:=by
 rw[cM,Lib.toList_data,<-h];refine⟨fun e=>by rw[e],fun e=>?_⟩;cases x;cases c;simp only at e;congr 1;exact wD.1 e
theorem ym (v l:ae):(v=l)<->((⟨v.toArray⟩:ag).toList==l)=true:=by
 rw[cM,Lib.toList_data]
theorem QT (t:ag):(t.extract 0 7).toList=t.data.toList.take 7:=by
 rw[Lib.toList_data,Lib.extract_data];simp
theorem Ii (t:ag):(t.extract 7 t.size).data.toList=t.data.toList.drop 7:=by
 rw[Lib.extract_data,jy];rw[bV,cy];exact ak _
theorem Ig {t:ag}(h:¬(7<t.size∧t.data.toList.take 7=kG.data.toList∧(bB 10 9 (t.data.toList.drop 7)).2=true∧ba 8 (bB 10 9 (t.data.toList.drop 7)).1.toNat=t.data.toList.drop 7))(s:aA):lZ s t=U:=by
 unfold lZ wg;rw[if_neg h]
theorem QN {t:ag}(h:7<t.size∧t.data.toList.take 7=kG.data.toList∧(bB 10 9 (t.data.toList.drop 7)).2=true∧ba 8 (bB 10 9 (t.data.toList.drop 7)).1.toNat=t.data.toList.drop 7)(s:aA):lZ s t=match cq s.l (bB 10 9 (t.data.toList.drop 7)).1 with
 | none=>U
 | some i=>s.l[i]?:=by
 unfold lZ wg;rw[if_pos h];rfl
def nV (x:aK):ae×Nat:=if dg x=true then (bi x,0) else ([],1)
def hJ (x:aK):Nat->ae
 | 0=>[]
 | 1=>iA x.b
 | 2=>iA x.b++iA x.a
 | _=>ki x
def mr (w:X)(x:aK)(e:Ending)(w':X):Prop:=∃ao cap,e=Y (.tuple #[Z ao (nV x).1.length cap,I J ((nV x).2:Int)])∧bC w' w.heap.size 5 ao cap (nV x).1∧Below w.heap.size w w'
theorem rX {w W:X}{a b c d:Value}{t B:Nat}(e:w.heap.size<B)(h:Below B (w.alloc (K #[a,b,c,d] t)) W):W.cell? ⟨w.heap.size,0,U⟩=M a∧W.cell? ⟨w.heap.size,1,U⟩=M b∧W.cell? ⟨w.heap.size,2,U⟩=M c∧W.cell? ⟨w.heap.size,3,U⟩=M d:=by
 refine⟨?_,?_,?_,?_⟩
 . rw[h.cell (p:=⟨w.heap.size,0,U⟩) e];exact World.cell?_alloc_mark w _ _ _ 0
 . rw[h.cell (p:=⟨w.heap.size,1,U⟩) e];exact World.cell?_alloc_mark w _ _ _ 1
 . rw[h.cell (p:=⟨w.heap.size,2,U⟩) e];exact World.cell?_alloc_mark w _ _ _ 2
 . rw[h.cell (p:=⟨w.heap.size,3,U⟩) e];exact World.cell?_alloc_mark w _ _ _ 3
theorem Bq (W:X)(a b c:Value):
 (Instr.index 232 (.agg #[a,b,c]) (I J 0)).run prog W=.ok a W ∧
 (Instr.index 232 (.agg #[a,b,c]) (I J 1)).run prog W=.ok b W ∧
 (Instr.index 232 (.agg #[a,b,c]) (I J 2)).run prog W=.ok c W:=by
 refine⟨by kernel_rfl,by kernel_rfl,by kernel_rfl⟩
theorem ue (x:aK)(p:ai)(c q:Nat)(w:X)(hT:ay w p q x.c)(hn:x.c.length=c):
 Calls prog 199 #[.agg #[I J x.b,I J x.a,I J x.n,Z p c q]] w fun e w'=>mr w x e w':=by
 have N:Below w.heap.size w (w.alloc (K #[I J x.b,I J x.a,I J x.n,Z p c q] 223)):=(aq _ w).alloc (ak _) _;have S:=EV x p c q hn (w.alloc (K #[I J x.b,I J x.a,I J x.n,Z p c q] 223));have r:(w.alloc (K #[I J x.b,I J x.a,I J x.n,Z p c q] 223)).heap.size=w.heap.size+1:=by simp
 have HC:∀W,Below (w.heap.size+1) (w.alloc (K #[I J x.b,I J x.a,I J x.n,Z p c q] 223)) W->W.cell? ⟨w.heap.size,0,U⟩=M (I J x.b)∧W.cell? ⟨w.heap.size,1,U⟩=M (I J x.a)∧W.cell? ⟨w.heap.size,2,U⟩=M (I J x.n)∧W.cell? ⟨w.heap.size,3,U⟩=M (Z p c q):=fun W h=>rX (by omega) h;rw[r] at S;have HT:∀W,Below (w.heap.size+1) (w.alloc (K #[I J x.b,I J x.a,I J x.n,Z p c q] 223)) W->ay W p q x.c:=fun W h=>hT.a (N.trans (h.mono (by omega)));have T:∀W,Below (w.heap.size+1) (w.alloc (K #[I J x.b,I J x.a,I J x.n,Z p c q] 223)) W->Below w.heap.size w W:=fun W h=>N.trans (h.mono (by omega));obtain⟨i0,hi0,hz0,hz1,hz2⟩:=info_parts il;have Hi:=hi0;have kT:=aa hz0;have kL:=aa hz1;have kU:=aa hz2
 cases G:dg x with
 | false =>
   rw[G] at S;have HE:Hid (nV x=([],1)):=by unfold Hid nV;rw[if_neg (by simp[G])]
   go_enter func199,ntmps199;go_wp2_with (go_at_call 247;refine S.mono ?_;rintro e w2 ⟨rfl,s⟩;have y:=aa s;clear s)
   go_ret2;exact⟨U,0,by rw[HE.o];rfl,by rw[HE.o];exact bC.e _ _ _,T _ y.o⟩
 | true =>
   rw[G] at S;have HE:Hid (nV x=(bi x,0)):=by unfold Hid nV;rw[if_pos G]
   obtain⟨k1,k2,k3,k4⟩:=(ve x).1 G;have hhl:=E3 G;have hil:=oh G;rw[hn] at k4;have hin:(dU x).length=(ki x).length+c:=by rw[dU,aF,hn]
   have ak1:Hid (bi x=bX ((ki x).length+c+1)++ki x++x.c):=by
    unfold Hid bi;rw[hin,dU,iX]
   go_enter func199,ntmps199;go_upto_region 3 with (go_at_call 247;refine S.mono ?_;rintro e w2 ⟨rfl,s⟩;have y:=aa s;clear s)
   have HB1:=y.o;obtain⟨c0,c1,c2,c3⟩:=HC _ y.o;generalize w.alloc (K #[I J x.b,I J x.a,I J x.n,Z p c q] 223)=w1 at *;go_wp2;have HPl:∀i,(hJ x i).length<=15:=fun i=>by
    have e:(ki x).length=(iA x.b).length+(iA x.a).length+(iA x.n).length:=by simp[ki,Nat.add_assoc]
    match i with
    | 0=>simp[hJ]
    | 1=>simp only[hJ];omega
    | 2=>simp only[hJ,aF];omega
    | (n+3)=>exact hhl
   go_loopw [4,18] (fun vo vi wr=>∃(i m:Nat) (g:ai) (j:Nat),i<=3∧vi=I J i∧vo=Z g m j∧bC wr (w.heap.size+1) 5 g j (hJ x i)∧(hJ x i).length=m∧Below (w.heap.size+1) w1 wr) (fun _ vi _=>3-(intOf vi).toNat)
   case atStart=>exact⟨0,0,U,0,by omega,rfl,rfl,bC.e _ _ _,rfl,HB1⟩
   case round =>
    obtain⟨i,m,g,j,hi,rfl,rfl,hO,hL,hB⟩:=hrel;have HO:=hO;have t:=aa hB;have u:=aa hL
    have hm:m<=15:=by have:=HPl i;omega
    rcases(show i=0∨i=1∨i=2∨i=3 by omega) with rfl | rfl | rfl | rfl
    . have H:∀W g j m,bC W (w.heap.size+1) 5 g j (hJ x 0)->(hJ x 0).length=m->m<=15->Below (w.heap.size+1) w1 W->Calls prog 248 #[Z g m j,I J x.b] W fun e w'=>∃v a,e=Y (Z v (m+(bX (x.b+1).toNat).length) a)∧bC w' (w.heap.size+1) 5 v a (hJ x 0++bX (x.b+1).toNat)∧Below (w.heap.size+1) W w':=fun W g j m h1 h2 h3 h4=>yI (x.b+1).toNat (by omega) (w.heap.size+1) g j m _ W h1 h2 (by omega) (by have:=h4.size;have:=r;omega) x.b (by omega);have hx:=(Bq wr (I J x.b) (I J x.a) (I J x.n)).1;have C:hJ x 1=hJ x 0++bX (x.b+1).toNat:=rfl;go_wp2_with (go_at_call 248;refine(H _ _ _ _ HO u.o hm t.o).mono ?_;rintro e w3 ⟨L,k,rfl,d,b⟩;have D:=aa d;have f:=aa b;clear d b)
      go_roundw
      case rel=>exact⟨1,_,L,k,by omega,rfl,rfl,by rw[C];exact D.o,by rw[C,aF,u.o],t.o.trans f.o⟩
      case measure=>first | (simp[intOf];done) | (simp[intOf];omega)
    . have H:∀W g j m,bC W (w.heap.size+1) 5 g j (hJ x 1)->(hJ x 1).length=m->m<=15->Below (w.heap.size+1) w1 W->Calls prog 248 #[Z g m j,I J x.a] W fun e w'=>∃v a,e=Y (Z v (m+(bX (x.a+1).toNat).length) a)∧bC w' (w.heap.size+1) 5 v a (hJ x 1++bX (x.a+1).toNat)∧Below (w.heap.size+1) W w':=fun W g j m h1 h2 h3 h4=>yI (x.a+1).toNat (by omega) (w.heap.size+1) g j m _ W h1 h2 (by omega) (by have:=h4.size;have:=r;omega) x.a (by omega);have hx:=(Bq wr (I J x.b) (I J x.a) (I J x.n)).2.1;have C:hJ x 2=hJ x 1++bX (x.a+1).toNat:=rfl;go_wp2_with (go_at_call 248;refine(H _ _ _ _ HO u.o hm t.o).mono ?_;rintro e w3 ⟨L,k,rfl,d,b⟩;have D:=aa d;have f:=aa b;clear d b)
      go_roundw
      case rel=>exact⟨2,_,L,k,by omega,rfl,rfl,by rw[C];exact D.o,by rw[C,aF,u.o],t.o.trans f.o⟩
      case measure=>first | (simp[intOf];done) | (simp[intOf];omega)
    . have H:∀W g j m,bC W (w.heap.size+1) 5 g j (hJ x 2)->(hJ x 2).length=m->m<=15->Below (w.heap.size+1) w1 W->Calls prog 248 #[Z g m j,I J x.n] W fun e w'=>∃v a,e=Y (Z v (m+(bX (x.n+1).toNat).length) a)∧bC w' (w.heap.size+1) 5 v a (hJ x 2++bX (x.n+1).toNat)∧Below (w.heap.size+1) W w':=fun W g j m h1 h2 h3 h4=>yI (x.n+1).toNat (by omega) (w.heap.size+1) g j m _ W h1 h2 (by omega) (by have:=h4.size;have:=r;omega) x.n (by omega);have hx:=(Bq wr (I J x.b) (I J x.a) (I J x.n)).2.2;have C:hJ x 3=hJ x 2++bX (x.n+1).toNat:=rfl;go_wp2_with (go_at_call 248;refine(H _ _ _ _ HO u.o hm t.o).mono ?_;rintro e w3 ⟨L,k,rfl,d,b⟩;have D:=aa d;have f:=aa b;clear d b)
      go_roundw
      case rel=>exact⟨3,_,L,k,by omega,rfl,rfl,by rw[C];exact D.o,by rw[C,aF,u.o],t.o.trans f.o⟩
      case measure=>first | (simp[intOf];done) | (simp[intOf];omega)
    . obtain⟨d0,d1,d2,d3⟩:=HC _ t.o;have HPh:hJ x 3=ki x:=rfl;rw[HPh] at HO u;have z:Hid (w.heap.size+1<=wr.heap.size):=by have:=t.o.size;have:=r;unfold Hid;omega
      have H:Hid (Calls prog 248 #[Z U 0 0,I J ((m:Int)+c)] wr fun e w'=>∃v a,e=Y (Z v (bX (m+c+1)).length a)∧bC w' wr.heap.size 5 v a (bX (m+c+1))∧Below wr.heap.size wr w'):=by
       have:=yI (m+c+1) (by omega) wr.heap.size U 0 0 [] wr (bC.e _ _ _) rfl (by omega) (ak _) ((m:Int)+c) (by omega);unfold Hid;simpa using this
      have hwr:IntKind.i64.wrap ((m:Int)+c)=(m:Int)+c:=iY (by omega) (by omega);have hnl:(bX (m+c+1)).length<=5:=xH 4 _ (by omega);have HE2:bi x=bX (m+c+1)++ki x++x.c:=by rw[ak1.o,u.o]
      have zT:x.c.length=c:=hn;generalize bX (m+c+1)=nm at *;go_wp2_with (first
       | (go_at_call 248;refine H.o.mono ?_;rintro e w3 ⟨L,k,rfl,d,b⟩;have D:=aa d;have f:=aa b;have HI3:=aa (HO.a.a b);clear d b)
       | (at_builtin;refine nQ rfl (.tmp 32) (.tmp 33) 31 rfl wr.heap.size 5 i0 underlying31 Hi kT.o kL.o kU.o (l:=nm) (l2:=ki x) rfl rfl D.o rfl u.o HI3.o (by omega) f.o.size ?_;intro tK zU w4 hO4 hG4;have B:=f.o.trans (ze D.o hG4 f.o.size);have Tg:=aa hO4;have kF:=aa B;have ak3:=aa (t.o.trans (B.mono z.o));obtain⟨e0,e1,e2,e3⟩:=HC _ (t.o.trans (B.mono z.o));clear hO4 hG4 B)
       | (at_builtin;refine nQ rfl (.tmp 35) (.tmp 37) 31 rfl wr.heap.size 5 i0 underlying31 Hi kT.o kL.o kU.o (l:=nm++ki x) (l2:=x.c) rfl (by rw[aF,u.o]) Tg.o rfl zT (HT _ ak3.o) (by omega) kF.o.size ?_;intro AZ ca5 w5 yT O4;have hb5:=kF.o.trans (ze Tg.o O4 kF.o.size);have AL:=aa yT;have oP:=aa (t.o.trans (hb5.mono z.o));clear yT O4 hb5))
      go_ret2;exact⟨AZ,ca5,by rw[HE.o,HE2,aF,aF,u.o,zT];rfl,by rw[HE.o,HE2];exact AL.o.q (by have:=z.o;omega),T _ oP.o⟩
inductive AT (w:X)(b:ae):Ending->X->Prop
 | no {w'}:eY b=U->Below w.heap.size w w'->AT w b (Y (.tuple #[.agg #[I J 0,I J 0,I J 0,Z U 0 0],I J 0])) w'
 | yes {w'} (e:aK) (s:Nat) (ta:ai) (tc:Nat):eY b=M (e,s)->dO w' (fun k=>w.heap.size<=k) ta tc e.c->Below w.heap.size w w'->AT w b (Y (.tuple #[.agg #[I J e.b,I J e.a,I J e.n,Z ta e.c.length tc],I J (s:Int)])) w'
theorem Nq {b:ae}(h:dp b=U):eY b=U:=by unfold eY;rw[h]
theorem OV {b:ae}{x:Int}{s:Nat}(h:dp b=M (x,s))(a:¬(0<=x∧x<=(b.length:Int)-s)):eY b=U:=by unfold eY;rw[h];simp only;rw[if_neg a]
theorem Nr {b:ae}{x:Int}{s:Nat}(h:dp b=M (x,s))(a:0<=x∧x<=(b.length:Int)-s):eY b=(iT ((b.drop s).take x.toNat)).map fun e=>(e,s+x.toNat):=by unfold eY;rw[h];simp only;rw[if_pos a]
theorem IX (b:ae)(ao:ai)(cap n:Nat)(w:X)(hB:ay w ao cap b)(hn:b.length=n)(hN:n<=1000000000):
 Calls prog 153 #[Z ao n cap] w fun e w'=>AT w b e w':=by
 have hb1:Below w.heap.size w (w.alloc (K #[I J 0,I J 0,I J 0,Z U 0 0] 223)):=(aq _ w).alloc (ak _) _;have y:(w.alloc (K #[I J 0,I J 0,I J 0,Z U 0 0] 223)).heap.size=w.heap.size+1:=by simp
 have HR:=IP b ao cap n _ (hB.a hb1) hn hN;have hcap:=hB.1;have C:∀W,Below (w.heap.size+1) (w.alloc (K #[I J 0,I J 0,I J 0,Z U 0 0] 223)) W->W.heap[w.heap.size]? = M (K #[I J 0,I J 0,I J 0,Z U 0 0] 223 (0,0))∧Below w.heap.size w W∧ay W ao cap b:=fun W hW =>
  ⟨(hW.block _ (by omega)).trans (bw w _),hb1.trans (hW.mono (by omega)),hB.a (hb1.trans (hW.mono (by omega)))⟩
 have c:=C _ (aq _ _);have c0:=iZ c.1;have HR1:=c.1;have l:=c.2.1;have HI1:=c.2.2;go_enter func153,ntmps153;go_upto_region 1 with fail
 generalize w.alloc (K #[I J 0,I J 0,I J 0,Z U 0 0] 223)=f at *;cases hr:dp b with
 | none =>
   rw[El hr] at HR;have N:=Nq hr;go_wp2_with (go_at_call 208;refine HR.mono ?_;rintro e d ⟨rfl,j⟩;rw[j];clear j)
   obtain⟨a,T⟩:=qN HR1 (I J 0) (I J 0) (I J 0) (Z U 0 0);generalize ((((f.setCell ⟨w.heap.size,0,U⟩ (Value.int J 0)).setCell ⟨w.heap.size,1,U⟩ (Value.int J 0)).setCell ⟨w.heap.size,2,U⟩ (Value.int J 0)).setCell ⟨w.heap.size,3,U⟩ (Value.slice U 0 0))=w4 at a T ⊢;obtain⟨⟨D,G,H,L⟩,_⟩:=iZ a;refine aR (v:=.tuple #[.agg #[I J 0,I J 0,I J 0,Z U 0 0],I J 0]) (by simp[results,results153,go_sem,D,G,H,L]) rfl (.no N (l.trans (T.below (fun k e=>by omega) l.size)))
 | some p =>
   obtain⟨x,s⟩:=p;rw[Em hr] at HR;have hrl:=xK hr;have ts:((s:Int)==0)=F:=by rw[aO];omega
   have hws:IntKind.i64.wrap ((n:Int)-s)=(n:Int)-s:=iY (by omega) (by omega);by_cases hx:0<=x∧x<=(n:Int)-s
   . have N:=aa (Nr hr (by rw[hn];exact hx));obtain⟨hx0,hx1⟩:=hx;obtain⟨m,rfl⟩:∃m:Nat,x=m:=⟨x.toNat,by omega⟩;rw[Int.toNat_natCast] at N;obtain⟨t,u,rfl,hcs⟩:=HI1.j (by omega);have t1:¬(m:Int)<0:=by omega
     have t2:¬(n:Int)-s<m:=by omega
     have i1:(s:Int)<=(s:Int)+m:=by omega
     have i2:(s:Int)+m<=cap:=by omega
     have hwm:IntKind.i64.wrap ((s:Int)+m)=(s:Int)+m:=iY (by omega) (by omega);have hsb:(s:Int)<=cap:=by omega
     have i3:((s:Int)+m).toNat=s+m:=by omega
     have HIn:∀W,Below (w.heap.size+1) f W->Calls prog 209 #[Z (if cap=s then M ⟨t,u,U⟩ else M ⟨t,u+s,U⟩) m (cap-s)] W fun e w'=>xq W ((b.drop s).take m) e w':=fun W hW=>by
      have c:=(C W hW).2.2.f (gQ:=if cap=s then M ⟨t,u,U⟩ else M ⟨t,u+s,U⟩) s (s+m) (by omega) (by omega) (fun e=>by rw[if_neg e];simp[Addr.add_lit]);rw[show s+m-s=m by omega] at c;exact KN _ _ _ m W c (by rw[bP,bV];omega) (by omega)
     cases z:iT ((b.drop s).take m) with
     | none =>
       have HN:eY b=U:=by rw[N,z];rfl
       have HI2:Calls prog 209 #[Z (if cap=s then M ⟨t,u,U⟩ else M ⟨t,u+s,U⟩) m (cap-s)] f fun e w'=>e=Y (.tuple #[.agg #[I J 0,I J 0,I J 0,Z U 0 0],.bool F])∧Below f.heap.size f w':=(HIn f (aq _ _)).mono fun e w' h=>by
        cases h with
        | no c h2=>exact⟨rfl,h2⟩
        | yes q g i c _ _=>rw[z] at c;cases c
       go_upto_region 6 with (first
        | (go_at_call 208;refine HR.mono ?_;rintro e d ⟨rfl,j⟩;rw[j];clear j)
        | (go_at_call 209;refine HI2.mono ?_;rintro e d ⟨rfl,B⟩;have r:=aa B;clear B))
       generalize (if cap=s then M (⟨t,u,U⟩:Addr) else M ⟨t,u+s,U⟩)=aj at *;have hb4:Below (w.heap.size+1) f (d.alloc (K #[I J 0,I J 0,I J 0,Z U 0 0] 223)):=by
        rw[<-y];exact r.o.alloc r.o.size _
       generalize d.alloc (K #[I J 0,I J 0,I J 0,Z U 0 0] 223)=w4 at *;obtain⟨a,hbw,_⟩:=C w4 hb4;have HR4:=a;have Gw:=aa hbw
       have a0:=iZ a;go_wp2;obtain⟨qd,D9⟩:=qN HR4 (I J 0) (I J 0) (I J 0) (Z U 0 0);generalize ((((w4.setCell ⟨w.heap.size,0,U⟩ (Value.int J 0)).setCell ⟨w.heap.size,1,U⟩ (Value.int J 0)).setCell ⟨w.heap.size,2,U⟩ (Value.int J 0)).setCell ⟨w.heap.size,3,U⟩ (Value.slice U 0 0))=w5 at qd D9 ⊢;obtain⟨⟨D,G,H,L⟩,_⟩:=iZ qd;refine aR (v:=.tuple #[.agg #[I J 0,I J 0,I J 0,Z U 0 0],I J 0]) (by simp[results,results153,go_sem,D,G,H,L]) rfl (.no HN (Gw.o.trans (D9.below (fun k e=>by omega) Gw.o.size)))
     | some q =>
       have HN:eY b=M (q,s+m):=by rw[N,z];rfl
       have HI2:Calls prog 209 #[Z (if cap=s then M ⟨t,u,U⟩ else M ⟨t,u+s,U⟩) m (cap-s)] f fun e w'=>∃g i,e=Y (.tuple #[.agg #[I J q.b,I J q.a,I J q.n,Z g q.c.length i],.bool true])∧dO w' (fun k=>f.heap.size<=k) g i q.c∧Below f.heap.size f w':=(HIn f (aq _ _)).mono fun e w' h=>by
        cases h with
        | no c h2=>rw[z] at c;cases c
        | yes q' g i c h2 h3 =>
          rw[z] at c;injection c with c;subst c;exact⟨g,i,rfl,h2,h3⟩
       generalize hqn:q.c.length=qn at *;go_upto_region 6 with (first
        | (go_at_call 208;refine HR.mono ?_;rintro e d ⟨rfl,j⟩;rw[j];clear j)
        | (go_at_call 209;refine HI2.mono ?_;rintro e d ⟨g,i,rfl,Ze,B⟩;have r:=aa B;have HI3:=aa Ze;clear B Ze))
       generalize (if cap=s then M (⟨t,u,U⟩:Addr) else M ⟨t,u+s,U⟩)=aj at *;have jm:Below d.heap.size d (d.alloc (K #[I J q.b,I J q.a,I J q.n,Z g qn i] 223)):=(aq _ d).alloc (ak _) _;have hb4:Below (w.heap.size+1) f (d.alloc (K #[I J q.b,I J q.a,I J q.n,Z g qn i] 223)):=by
        rw[<-y];exact r.o.alloc r.o.size _
       have hq4:=bw d (K #[I J q.b,I J q.a,I J q.n,Z g qn i] 223);have HI4:dO (d.alloc (K #[I J q.b,I J q.a,I J q.n,Z g qn i] 223)) (fun k=>f.heap.size<=k) g i q.c:=HI3.o.d (al.d (S:=fun _=>False) jm) (fun _ _ e=>e);have hz3:w.heap.size+1<=d.heap.size:=by have:=r.o.size;have:=y;omega
       generalize d.alloc (K #[I J q.b,I J q.a,I J q.n,Z g qn i] 223)=w4 at *;generalize d.heap.size=gq at *;obtain⟨a,hbw,_⟩:=C w4 hb4;have HR4:=a;have Gw:=aa hbw
       have a0:=iZ a;obtain⟨⟨k0,k1,k2,k3⟩,_⟩:=iZ hq4;have hne:¬gq=w.heap.size:=by omega
       have hne2:¬w.heap.size=gq:=by omega
       go_wp2;obtain⟨qd,D9⟩:=qN HR4 (I J q.b) (I J q.a) (I J q.n) (Z g qn i);generalize ((((w4.setCell ⟨w.heap.size,0,U⟩ (Value.int J q.b)).setCell ⟨w.heap.size,1,U⟩ (Value.int J q.a)).setCell ⟨w.heap.size,2,U⟩ (Value.int J q.n)).setCell ⟨w.heap.size,3,U⟩ (Value.slice g qn i))=w5 at qd D9 ⊢;obtain⟨⟨D,G,H,L⟩,_⟩:=iZ qd;have hy:=AT.yes (w:=w) (b:=b) (w':=w5) q (s+m) g i HN ((HI4.d D9 (fun k e e2=>by have:=y;omega)).a (fun k _ e=>by have:=y;omega)) (Gw.o.trans (D9.below (fun k e=>by omega) Gw.o.size));rw[hqn] at hy;refine aR (v:=.tuple #[.agg #[I J q.b,I J q.a,I J q.n,Z g qn i],I J ((s+m:Nat):Int)]) (by simp[results,results153,go_sem,D,G,H,L]) rfl hy
   . have N:=aa (OV hr (by rw[hn];exact hx));by_cases hx0:x<0
     . skip;go_wp2_with (go_at_call 208;refine HR.mono ?_;rintro e d ⟨rfl,j⟩;rw[j];clear j)
       obtain⟨a,T⟩:=qN HR1 (I J 0) (I J 0) (I J 0) (Z U 0 0);generalize ((((f.setCell ⟨w.heap.size,0,U⟩ (Value.int J 0)).setCell ⟨w.heap.size,1,U⟩ (Value.int J 0)).setCell ⟨w.heap.size,2,U⟩ (Value.int J 0)).setCell ⟨w.heap.size,3,U⟩ (Value.slice U 0 0))=w4 at a T ⊢;obtain⟨⟨D,G,H,L⟩,_⟩:=iZ a;refine aR (v:=.tuple #[.agg #[I J 0,I J 0,I J 0,Z U 0 0],I J 0]) (by simp[results,results153,go_sem,D,G,H,L]) rfl (.no N (l.trans (T.below (fun k e=>by omega) l.size)))
     . have t2:(n:Int)-s<x:=by omega
       go_wp2_with (go_at_call 208;refine HR.mono ?_;rintro e d ⟨rfl,j⟩;rw[j];clear j)
       obtain⟨a,T⟩:=qN HR1 (I J 0) (I J 0) (I J 0) (Z U 0 0);generalize ((((f.setCell ⟨w.heap.size,0,U⟩ (Value.int J 0)).setCell ⟨w.heap.size,1,U⟩ (Value.int J 0)).setCell ⟨w.heap.size,2,U⟩ (Value.int J 0)).setCell ⟨w.heap.size,3,U⟩ (Value.slice U 0 0))=w4 at a T ⊢;obtain⟨⟨D,G,H,L⟩,_⟩:=iZ a;refine aR (v:=.tuple #[.agg #[I J 0,I J 0,I J 0,Z U 0 0],I J 0]) (by simp[results,results153,go_sem,D,G,H,L]) rfl (.no N (l.trans (T.below (fun k e=>by omega) l.size)))
theorem Uf:(prog.info? 223).map (fun i=>(i.zero,i.size,i.bytes))=M (M (.agg #[I J 0,I J 0,I J 0,Z U 0 0]),4,48):=by kernel_rfl
structure vg (w:X)(tE:Nat)(b:ae)(at_:Nat)(ao:ai)(ca:Nat)(l:List aK)(W:X):Prop where
 c:lM W (fun k=>w.heap.size<=k) tE ao ca l
 e:at_<=b.length
 d:l.length<=at_
 a:cu b=(l++(cu (b.drop at_)).1,at_+(cu (b.drop at_)).2)
 below:Below w.heap.size w W
theorem vg.j (w:X)(a:Nat)(b:ae):vg w a b 0 U 0 [] w:=⟨lM.j _ _ _,ax _,ak _,by simp,aq _ _⟩
theorem vg.q {w:X}{a:Nat}{b:ae}{at_:Nat}{ao:ai}{c:Nat}{l:List aK}{W:X}(h:vg w a b at_ ao c l W)(d:eY (b.drop at_)=U):cu b=(l,at_):=by
 rw[h.a,vf d];simp
theorem vg.f {w:X}{a:Nat}{b:ae}{at_:Nat}{ao:ai}{f:Nat}{l:List aK}{W W':X}(h:vg w a b at_ ao f l W){e:aK}{s:Nat}(d:eY (b.drop at_)=M (e,s)){gQ:ai}{DN:Nat}(g:lM W' (fun k=>w.heap.size<=k) a gQ DN (l++[e]))(i:Below w.heap.size w W'):vg w a b (at_+s) gQ DN (l++[e]) W':=by
 have c:=xL d;rw[bV] at c;have j:=h.e;have m:=h.d;refine⟨g,by omega,by rw[aF];simp;omega,?_,i⟩;rw[h.a,AI d,oD];simp only[iX,gV,jo,fC]
def Im (w:X)(tE:Nat)(b:ae)(e:Ending)(w':X):Prop:=∃ao ca,e=Y (.tuple #[Z ao (cu b).1.length ca,I J ((cu b).2:Int)])∧lM w' (fun k=>w.heap.size<=k) tE ao ca (cu b).1∧Below w.heap.size w w'
theorem Na (b:ae)(ao:ai)(cap n:Nat)(w:X)(hB:ay w ao cap b)(hn:b.length=n)(hN:n<=1000000000):
 Calls prog 103 #[Z ao n cap] w fun e w'=>Im w 223 b e w':=by
 have HI:∀W,Below w.heap.size w W->ay W ao cap b:=fun W hW=>hB.a hW;have hcap:=hB.1;obtain⟨j0,hj0,hy0,hy1,hy2⟩:=info_parts Uf;have Hj:=hj0;have Jj:=aa hy0;have Jk:=aa hy1;have Jl:=aa hy2
 go_enter func103,ntmps103;go_wp2;go_loopw [4,5] (fun vl va wr=>∃(k:Nat) (D:ai) (G:Nat) (l:List aK) (m:Nat),l.length=m∧vl=Z D m G∧va=I J k∧vg w 223 b k D G l wr) (fun _ va _=>n-(intOf va).toNat)
 case atStart=>exact⟨0,U,0,[],0,rfl,rfl,rfl,vg.j w _ b⟩
 case round =>
  obtain⟨k,D,G,l,m,hm,rfl,rfl,t⟩:=hrel;have hk:=t.e;have nN:=t.d;have hk1:(k:Int)<=n:=by omega
  have hk2:(k:Int)<=cap:=by omega
  have Vk:∀u,(cap≠k->u=ao.map (·.add k))->ay wr u (cap-k) (b.drop k):=fun u z=>by
   have g:=(HI wr t.below).f (gQ:=u) k b.length (by omega) (ak _) z;rwa[jy (by rw[bV];omega)] at g
  cases C:eY (b.drop k) with
  | none =>
    have HX:=t.q C;have x:∀u,(cap≠k->u=ao.map (·.add k))->Calls prog 153 #[Z u (n-k) (cap-k)] wr fun e w'=>e=Y (.tuple #[.agg #[I J 0,I J 0,I J 0,Z U 0 0],I J 0])∧Below wr.heap.size wr w':=fun u z=>(IX (b.drop k) u (cap-k) (n-k) wr (Vk u z) (by rw[bV,hn]) (by omega)).mono fun e w' h=>by
     cases h with
     | no g T=>exact⟨rfl,T⟩
     | yes q s c d g _ _=>rw[C] at g;cases g
    have y:∀f,Below wr.heap.size wr f->Im w 223 b (Y (.tuple #[Z D m G,I J (k:Int)])) (f.alloc (K #[I J 0,I J 0,I J 0,Z U 0 0] 223)):=fun f a=>by
     have H:=a.alloc a.size (K #[I J 0,I J 0,I J 0,Z U 0 0] 223);exact⟨D,G,by rw[HX,hm],by rw[HX];exact t.c.d H,ar t.below H⟩
    by_cases B:cap=k
    . have L:=x ao (fun e=>absurd B e);have hnk:n-k=0:=by omega
      have amb:cap-k=0:=by omega
      rw[hnk,amb] at L;obtain rfl:n=k:=by omega
      subst B;go_wp2_with (go_at_call 153;refine L.mono ?_;rintro e f ⟨rfl,a⟩;have i:=aa a;clear a)
      go_ret2;exact y f i.o
    . have HR3:=aa (x _ (fun _=>rfl));go_wp2_with (go_at_call 153;refine HR3.o.mono ?_;rintro e f ⟨rfl,a⟩;have i:=aa a;clear a)
      go_ret2;exact y f i.o
  | some p =>
    obtain⟨q,s⟩:=p;have hle:=xL C;rw[bV] at hle;have B:¬cap=k:=by omega
    have HM:=fun W' gQ DN hE hb=>t.f (W':=W') (gQ:=gQ) (DN:=DN) C hE hb;have x:Calls prog 153 #[Z (ao.map (·.add k)) (n-k) (cap-k)] wr fun e w'=>∃c d,e=Y (.tuple #[.agg #[I J q.b,I J q.a,I J q.n,Z c q.c.length d],I J (s:Int)])∧dO w' (fun k=>wr.heap.size<=k) c d q.c∧Below wr.heap.size wr w':=(IX (b.drop k) _ (cap-k) (n-k) wr (Vk _ (fun _=>rfl)) (by rw[bV,hn]) (by omega)).mono fun e w' h=>by
     cases h with
     | no g T=>rw[C] at g;cases g
     | yes q' s' c d g T h3 =>
       rw[C] at g;injection g with g;injection g with h4 h5;subst h4;subst h5;exact⟨c,d,rfl,T,h3⟩
    have ts:((s:Int)==0)=F:=by rw[aO];omega
    have HQn:∃v,q.c.length=v:=⟨_,rfl⟩;generalize hqn:q.c.length=v at *;go_upto_region 6 with (go_at_call 153;refine x.mono ?_;rintro e f ⟨c,d,rfl,Ze,a⟩;have i:=aa a;have HI3:=aa Ze;clear a Ze)
    have jm:Below f.heap.size f (f.alloc (K #[I J q.b,I J q.a,I J q.n,Z c v d] 223)):=(aq _ f).alloc (ak _) _;have hq4:=bw f (K #[I J q.b,I J q.a,I J q.n,Z c v d] 223);have HI4:dO (f.alloc (K #[I J q.b,I J q.a,I J q.n,Z c v d] 223)) (fun k=>wr.heap.size<=k) c d q.c:=HI3.o.d (al.d (S:=fun _=>False) jm) (fun _ _ e=>e);have kF:Below wr.heap.size wr (f.alloc (K #[I J q.b,I J q.a,I J q.n,Z c v d] 223)):=ar i.o jm;generalize f.alloc (K #[I J q.b,I J q.a,I J q.n,Z c v d] 223)=w4 at *;generalize f.heap.size=gq at *;obtain⟨⟨k0,k1,k2,k3⟩,_⟩:=iZ hq4;obtain⟨xs,hO,hP⟩:=((t.c.a (S':=fun k=>w.heap.size<=k∧k<wr.heap.size) (fun j hj e=>⟨e,hj⟩)).d kF).q (K #[I J q.b,I J q.a,I J q.n,Z c v d] 223);have VZ:bx (w4.alloc (K #[I J q.b,I J q.a,I J q.n,Z c v d] 223)) (M ⟨w4.heap.size,0,U⟩) 1 1 (mc q ⟨c,d⟩):=by
     have:=bx.d w4 #[I J q.b,I J q.a,I J q.n,Z c v d] 1 223 (0,0);rw[<-hqn] at this ⊢;exact this
    rw[hm] at hO hP;have HO:=hO;have HP:=aa hP
    have HN:m+1<=9223372036854775807∧(m+1)*48<=140737488355328:=⟨by omega,by omega⟩;have hz:=t.below.size;have hwk:IntKind.i64.wrap ((k:Int)+s)=(k:Int)+s:=iY (by omega) (by omega);go_wp2_with (at_builtin;refine fE rfl (.tmp 19) (.tmp 21) 176 rfl 0 223 j0 (.agg #[I J 0,I J 0,I J 0,Z U 0 0]) 4 48 underlying176 Hj Jj.o Jk.o Jl.o rfl (by decide) rfl HO rfl VZ rfl (Ud _ _) HN.1 HN.2 (ax _) ?_;intro AZ r w5 yT O4 vL;obtain⟨N,xI⟩:=HP.o AZ r w5 q ⟨c,d⟩ (fun j=>wr.heap.size<=j) HI4 (fun j e h=>by omega) yT O4 vL;have HU5:=aa N;have HT5:=aa xI;clear yT O4 vL N xI)
    go_roundw
    case rel =>
     have hz4:=kF.size;refine⟨k+s,AZ,r,l++[q],m+1,by rw[aF,hm];rfl,rfl,by go_num,HM w5 AZ r (HU5.o.a (fun j _ e=>?_)) ((ar t.below kF).trans (HT5.o.below (fun j e=>e.1) (by omega)))⟩;rcases e with e | e | e
     . exact e.1
     . omega
     . omega
    case measure=>simp[intOf];omega
