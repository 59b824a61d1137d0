import Derived.Deep.RegionWith
import Derived.Test.YtodmelffkfbalaaGreatDoorPk23
import Derived.Test.YtodmelffkfbalaaGreatDoorPk33
open Go.Value renaming int->I,slice->Z,pointer->Q
open Go.IntKind renaming i64->J
open Go.Obj renaming cells->K
open Go.Ending renaming returned->Y
open Option renaming none->U,some->M
open Bool renaming false->F
open Go renaming World->X
set_option maxHeartbeats 2000000
set_option maxRecDepth 100000
open Go.Proofs.Tryz
namespace Go.Proofs.YtodmelffkfbalaaGreatDoor
open Go.RowKit
theorem If (n:Int)(w:X):Calls prog 324 #[I J n] w fun e w'=>e=Y (.bool (decide (-1<=n)&&decide (n<=1073741823)))∧w'=w:=by
 by_cases a:-1<=n
 . by_cases b:n<=1073741823
   . go_enter func324,ntmps324;go_wp2;go_ret;exact⟨fy (by simp[a,b]),rfl⟩
   . have c:Hid (decide (n<=1073741823)=F):=ba b;go_enter func324,ntmps324;go_wp2;go_ret;exact⟨fy (by rw[c.o];try simp),rfl⟩
 . have d:Hid (decide (-1<=n)=F):=ba a;go_enter func324,ntmps324;go_wp2;go_ret;exact⟨fy (by rw[d.o];rfl),rfl⟩
theorem SO (e:aH):df e=(decide (1<=e.b)&&(decide (e.b<=6)&&((decide (-1<=e.a)&&decide (e.a<=1073741823))&&((decide (-1<=e.n)&&decide (e.n<=1073741823))&&decide (e.c.length<=1048575))))):=by
 simp only[df,Bool.and_assoc]
theorem Ep (x:aH)(q:ag)(j r:Nat)(v:x.c.length=j)(w:X):Calls prog 291 #[.agg #[I J x.b,I J x.a,I J x.n,Z q j r]] w fun e w'=>e=Y (.bool (df x))∧Below w.heap.size w w':=by
 have d:=aa (SO x);have l:Hid (Below w.heap.size w (w.alloc (K #[I J x.b,I J x.a,I J x.n,Z q j r] 264))):=(ar _ w).alloc (ak _) _;have c:=aa (fun W=>If x.a W);have g:=aa (fun W=>If x.n W);rw[v] at d;generalize df x=f at *;generalize x.b=k at *;generalize x.a=i at *;generalize x.n=n at *;generalize (decide (-1<=i)&&decide (i<=1073741823))=y at *;generalize (decide (-1<=n)&&decide (n<=1073741823))=z at *;by_cases s:1<=k
 . by_cases t:k<=6
   . cases y with
     | true =>
       cases z with
       | true =>
         by_cases u:j<=1048575
         . have p:(j:Int)<=1048575:=by omega
           go_enter func291,ntmps291;go_wp2_with (first
            | (go_at_call_of 324 i;refine(c.o _).mono ?_;rintro e m ⟨rfl,a⟩;rw[a];clear a)
            | (go_at_call_of 324 n;refine(g.o _).mono ?_;rintro e m ⟨rfl,a⟩;rw[a];clear a))
           go_ret;exact⟨fy (by rw[d.o];simp[s,t,u]),l.o⟩
         . have p:¬(j:Int)<=1048575:=by omega
           have b:f=F:=by have:=d.o;rw[ba u] at this;simpa using this
           go_enter func291,ntmps291;go_wp2_with (first
            | (go_at_call_of 324 i;refine(c.o _).mono ?_;rintro e m ⟨rfl,a⟩;rw[a];clear a)
            | (go_at_call_of 324 n;refine(g.o _).mono ?_;rintro e m ⟨rfl,a⟩;rw[a];clear a))
           go_ret;exact⟨by rw[b];simp;omega,l.o⟩
       | false =>
         go_enter func291,ntmps291;go_wp2_with (first
          | (go_at_call_of 324 i;refine(c.o _).mono ?_;rintro e m ⟨rfl,a⟩;rw[a];clear a)
          | (go_at_call_of 324 n;refine(g.o _).mono ?_;rintro e m ⟨rfl,a⟩;rw[a];clear a))
         go_ret;exact⟨fy (by rw[d.o];simp),l.o⟩
     | false =>
       go_enter func291,ntmps291;go_wp2_with (go_at_call 324;refine(c.o _).mono ?_;rintro e m ⟨rfl,a⟩;rw[a];clear a)
       go_ret;exact⟨fy (by rw[d.o];simp),l.o⟩
   . have b:Hid (f=F):=by unfold Hid;have:=d.o;rw[ba t] at this;simpa using this
     go_enter func291,ntmps291;go_wp2;go_ret;exact⟨fy b.o.symm,l.o⟩
 . have b:Hid (f=F):=by unfold Hid;have:=d.o;rw[ba s] at this;simpa using this
   go_enter func291,ntmps291;go_wp2;go_ret;exact⟨fy b.o.symm,l.o⟩
inductive ox (b:ab):Nat->ab->Int->Int->Int->Prop
 | zero:ox b 0 b 0 0 0
 | one {x s}:dm b=M (x,s)->ox b 1 (b.drop s) x 0 0
 | two {x s y t}:dm b=M (x,s)->dm (b.drop s)=M (y,t)->ox b 2 ((b.drop s).drop t) x y 0
 | three {x s y t z u}:dm b=M (x,s)->dm (b.drop s)=M (y,t)->dm ((b.drop s).drop t)=M (z,u)->ox b 3 (((b.drop s).drop t).drop u) x y z
theorem ox.f {b a:ab}{i:Nat}{x y z:Int}(h:ox b i a x y z):a.length<=b.length:=by
 cases h <;> (try simp only[cO]) <;> omega
theorem ox.r {b d:ab}{i:Nat}{x y z:Int}(h:ox b i d x y z)(f:i<3)(a:dm d=U):iK b=U:=by
 cases h with
 | zero=>unfold iK;rw[a]
 | one c=>unfold iK;rw[c];simp only;rw[a]
 | two c e=>unfold iK;rw[c];simp only;rw[e];simp only;rw[a]
 | three=>omega
theorem ox.a {b a:ab}{x y z:Int}(h:ox b 3 a x y z):iK b=if df ⟨x,y,z,a⟩=true then M ⟨x,y,z,a⟩ else U:=by
 cases h with
 | three c d e=>unfold iK;rw[c];simp only;rw[d];simp only;rw[e]
def Bt (i:Nat)(v x y z:Int):Int×Int×Int:=match i with
 | 0=>(v,y,z)
 | 1=>(x,v,z)
 | _=>(x,y,v)
theorem ox.j {b a:ab}{i:Nat}{x y z v:Int}{s:Nat}(h:ox b i a x y z)(f:i<3)(c:dm a=M (v,s)):ox b (i+1) (a.drop s) (Bt i v x y z).1 (Bt i v x y z).2.1 (Bt i v x y z).2.2:=by
 cases h with
 | zero=>exact .one c
 | one d=>exact .two d c
 | two d e=>exact .three d e c
 | three=>omega
theorem CR {b:ab}(h:dm b=U):pb b=(0,0):=by unfold pb;rw[h]
theorem CS {b:ab}{x:Int}{s:Nat}(h:dm b=M (x,s)):pb b=(x,s):=by unfold pb;rw[h]
structure pZ (w:X)(x y z:Int)(W:X):Prop where
 a:W.heap[w.heap.size]? = M (K #[I J 0,I J 0,I J 0,Z U 0 0] 264 (0,0))
 c:W.heap[w.heap.size+1]? = M (K #[I J x,I J y,I J z] 273 (0,0))
 below:Below w.heap.size w W
 b:W.heap.size=w.heap.size+2
inductive wG (w:X)(b:ab):Ending->X->Prop
 | no {w'}:iK b=U->Below w.heap.size w w'->wG w b (Y (.tuple #[.agg #[I J 0,I J 0,I J 0,Z U 0 0],.bool F])) w'
 | yes {w'} (e:aH) (ta:ag) (tc:Nat):iK b=M e->dL w' (fun k=>w.heap.size<=k) ta tc e.c->Below w.heap.size w w'->wG w b (Y (.tuple #[.agg #[I J e.b,I J e.a,I J e.n,Z ta e.c.length tc],.bool true])) w'
theorem pZ.r {w W:X}{x y z:Int}(h:pZ w x y z W)(v:Int):pZ w v y z (W.setCell ⟨w.heap.size+1,0,U⟩ (I J v)).drew:=by
 have b:=h.b;have a:am (fun k=>k=w.heap.size+1) W (W.setCell ⟨w.heap.size+1,0,U⟩ (I J v)):=am.r _ W _ _ rfl;exact⟨a.y h.a (by omega),aP W _ 0 _ _ _ h.c,(h.below.trans (a.below (fun k e=>by omega) (by omega))).trans (bj _ _),by show(W.setCell _ _).heap.size=_;simp[World.setCell,b]⟩
theorem pZ.j {w W:X}{x y z:Int}(h:pZ w x y z W)(v:Int):pZ w x v z (W.setCell ⟨w.heap.size+1,1,U⟩ (I J v)).drew:=by
 have b:=h.b;have a:am (fun k=>k=w.heap.size+1) W (W.setCell ⟨w.heap.size+1,1,U⟩ (I J v)):=am.r _ W _ _ rfl;exact⟨a.y h.a (by omega),aP W _ 1 _ _ _ h.c,(h.below.trans (a.below (fun k e=>by omega) (by omega))).trans (bj _ _),by show(W.setCell _ _).heap.size=_;simp[World.setCell,b]⟩
theorem pZ.f {w W:X}{x y z:Int}(h:pZ w x y z W)(v:Int):pZ w x y v (W.setCell ⟨w.heap.size+1,2,U⟩ (I J v)).drew:=by
 have b:=h.b;have a:am (fun k=>k=w.heap.size+1) W (W.setCell ⟨w.heap.size+1,2,U⟩ (I J v)):=am.r _ W _ _ rfl;exact⟨a.y h.a (by omega),aP W _ 2 _ _ _ h.c,(h.below.trans (a.below (fun k e=>by omega) (by omega))).trans (bj _ _),by show(W.setCell _ _).heap.size=_;simp[World.setCell,b]⟩
theorem KM (b:ab)(ao:ag)(cap n:Nat)(w:X)(hB:aB w ao cap b)(hn:b.length=n)(hN:n<=1000000000):
 Calls prog 247 #[Z ao n cap] w fun e w'=>wG w b e w':=by
 have HI:Hid (∀W,Below w.heap.size w W->aB W ao cap b):=fun W hW=>hB.a hW;have HNb:Hid (0<b.length->∀k,aw ao=M k->k<w.heap.size):=fun h0 k e=>by
  obtain⟨d,g,rfl,hc⟩:=hB.r h0;injection e with e;subst e;exact bY w _ (hc 0 h0)
 clear hB;go_enter func247,ntmps247;go_wp2;have HM0:Hid (pZ w 0 0 0 ((w.alloc (K #[I J 0,I J 0,I J 0,Z U 0 0] 264)).alloc (K #[I J 0,I J 0,I J 0] 273))):=by
  refine⟨?_,?_,((ar _ w).alloc (ak _) _).alloc (by simp) _,by simp⟩
  . rw[Below.heap_alloc _ _ _ (by simp)];exact aX w _
  . have:=aX (w.alloc (K #[I J 0,I J 0,I J 0,Z U 0 0] 264)) (K #[I J 0,I J 0,I J 0] 273);rw[bF] at this;exact this
 generalize ((w.alloc (K #[I J 0,I J 0,I J 0,Z U 0 0] 264)).alloc (K #[I J 0,I J 0,I J 0] 273))=w1 at *;go_loopw [0,9] (fun vb vi wr=>∃(i f c:Nat) (u:ag) (j:ab) (x y z:Int),i<=3∧vb=Z u f c∧vi=I J i∧ox b i j x y z∧aB wr u c j∧j.length=f∧aw u=aw ao∧pZ w x y z wr) (fun _ vi _=>3-(intOf vi).toNat)
 case atStart=>exact⟨0,n,cap,ao,b,0,0,0,by omega,rfl,rfl,.zero,HI.o _ HM0.o.below,hn,rfl,HM0.o⟩
 case round =>
  obtain⟨i,f,c,u,j,x,y,z,hi,rfl,rfl,hA,hBi,t,hbl,hM⟩:=hrel;have HA:=aa hA;have D:=aa hBi;have HM:=aa hM
  have hle:=hA.f;have HR:=aa (Ht j u c f wr hBi t (by omega));have hci:=hBi.1;obtain⟨⟨c0,c1,c2,c3⟩,f0,f1,f2,f3⟩:=dU hM.a;obtain⟨⟨d0,d1,d2⟩,e0,e1,e2⟩:=si hM.c;clear hA hBi hM;by_cases hlt:i<3
  . cases hr:dm j with
    | none =>
      rw[CR hr] at HR;have HX:=aa (HA.o.r hlt hr);clear hr;have hlt':(i:Int)<3:=by omega
      go_wp2_with (go_at_call 246;refine HR.o.mono ?_;rintro e r ⟨rfl,G⟩;rw[G];clear G)
      obtain⟨q,EN⟩:=lT HM.o.a (I J 0) (I J 0) (I J 0) (Z U 0 0);generalize ((((wr.setCell ⟨w.heap.size,0,U⟩ (Value.int J 0)).setCell ⟨w.heap.size,1,U⟩ (Value.int J 0)).setCell ⟨w.heap.size,2,U⟩ (Value.int J 0)).setCell ⟨w.heap.size,3,U⟩ (Value.slice U 0 0))=m at q EN ⊢;obtain⟨⟨r0,r1,r2,r3⟩,_⟩:=dU q;refine aR (v:=.tuple #[.agg #[I J 0,I J 0,I J 0,Z U 0 0],.bool F]) (by simp[results,results247,go_sem,r0,r1,r2,r3]) rfl (.no HX.o (HM.o.below.trans (EN.below (fun k e=>by omega) (by have:=HM.o.b;omega))))
    | some p =>
      obtain⟨v,s⟩:=p;rw[CS hr] at HR;have HX:=aa (HA.o.j hlt hr);have hrl:=xb hr;obtain⟨d,g,rfl,hcs⟩:=D.o.r (by omega);clear hr hcs;have HNe:Hid (∀a,(if c=s then M (⟨d,g,U⟩:Addr) else M ⟨d,g+s,U⟩)=M a->¬a.block=w.heap.size+1):=fun a e=>by
       have hbb:d≠w.heap.size+1:=fun e=>by have:=HNb.o (by omega) d hbl.symm;omega
       split at e <;> (injection e with e;subst e;exact hbb)
      have HBk:Hid (aw (if c=s then M (⟨d,g,U⟩:Addr) else M ⟨d,g+s,U⟩)=aw ao):=by
       unfold Hid;rw[<-hbl];split <;> rfl
      clear hbl;have hlt':(i:Int)<3:=by omega
      have ts:((s:Int)==0)=F:=by rw[aQ];omega
      have s1:(s:Int)<=f:=by omega
      have s2:(s:Int)<=c:=by omega
      rcases(show i=0∨i=1∨i=2 by omega) with rfl | rfl | rfl
      . have H:=aa (HM.o.r v);have L:Hid (aB (wr.setCell ⟨w.heap.size+1,0,U⟩ (I J v)).drew (if c=s then M ⟨d,g,U⟩ else M ⟨d,g+s,U⟩) (c-s) (j.drop s)):=by
         have N:=D.o.G (gL:=if c=s then M ⟨d,g,U⟩ else M ⟨d,g+s,U⟩) s j.length (by omega) (ak _) (fun e=>by rw[if_neg e];simp[Addr.add_lit]);rw[gF (by rw[cO];omega)] at N;have ht:am (fun k=>k=w.heap.size+1) wr (wr.setCell ⟨w.heap.size+1,0,U⟩ (I J v)):=am.r _ wr _ _ rfl;exact(N.y ht (fun a e=>HNe.o a e)).a (bj _ _)
        go_wp2_with (go_at_call 246;refine HR.o.mono ?_;rintro e r ⟨rfl,G⟩;rw[G];clear G)
        go_region
        generalize (wr.setCell ⟨w.heap.size+1,0,U⟩ (Value.int J v)).drew=m at *;generalize (if c=s then M (⟨d,g,U⟩:Addr) else M ⟨d,g+s,U⟩)=aj at *;go_wp2;go_roundw
        case rel=>exact⟨1,f-s,c-s,aj,j.drop s,v,y,z,by omega,rfl,by go_num,HX.o,L.o,by rw[cO,t],HBk.o,H.o⟩
        case measure=>first | (simp[intOf];done) | (simp[intOf];omega)
      . have H:=aa (HM.o.j v);have L:Hid (aB (wr.setCell ⟨w.heap.size+1,1,U⟩ (I J v)).drew (if c=s then M ⟨d,g,U⟩ else M ⟨d,g+s,U⟩) (c-s) (j.drop s)):=by
         have N:=D.o.G (gL:=if c=s then M ⟨d,g,U⟩ else M ⟨d,g+s,U⟩) s j.length (by omega) (ak _) (fun e=>by rw[if_neg e];simp[Addr.add_lit]);rw[gF (by rw[cO];omega)] at N;have ht:am (fun k=>k=w.heap.size+1) wr (wr.setCell ⟨w.heap.size+1,1,U⟩ (I J v)):=am.r _ wr _ _ rfl;exact(N.y ht (fun a e=>HNe.o a e)).a (bj _ _)
        go_wp2_with (go_at_call 246;refine HR.o.mono ?_;rintro e r ⟨rfl,G⟩;rw[G];clear G)
        go_region
        generalize (wr.setCell ⟨w.heap.size+1,1,U⟩ (Value.int J v)).drew=m at *;generalize (if c=s then M (⟨d,g,U⟩:Addr) else M ⟨d,g+s,U⟩)=aj at *;go_wp2;go_roundw
        case rel=>exact⟨2,f-s,c-s,aj,j.drop s,x,v,z,by omega,rfl,by go_num,HX.o,L.o,by rw[cO,t],HBk.o,H.o⟩
        case measure=>first | (simp[intOf];done) | (simp[intOf];omega)
      . have H:=aa (HM.o.f v);have L:Hid (aB (wr.setCell ⟨w.heap.size+1,2,U⟩ (I J v)).drew (if c=s then M ⟨d,g,U⟩ else M ⟨d,g+s,U⟩) (c-s) (j.drop s)):=by
         have N:=D.o.G (gL:=if c=s then M ⟨d,g,U⟩ else M ⟨d,g+s,U⟩) s j.length (by omega) (ak _) (fun e=>by rw[if_neg e];simp[Addr.add_lit]);rw[gF (by rw[cO];omega)] at N;have ht:am (fun k=>k=w.heap.size+1) wr (wr.setCell ⟨w.heap.size+1,2,U⟩ (I J v)):=am.r _ wr _ _ rfl;exact(N.y ht (fun a e=>HNe.o a e)).a (bj _ _)
        go_wp2_with (go_at_call 246;refine HR.o.mono ?_;rintro e r ⟨rfl,G⟩;rw[G];clear G)
        go_region
        generalize (wr.setCell ⟨w.heap.size+1,2,U⟩ (Value.int J v)).drew=m at *;generalize (if c=s then M (⟨d,g,U⟩:Addr) else M ⟨d,g+s,U⟩)=aj at *;go_wp2;go_roundw
        case rel=>exact⟨3,f-s,c-s,aj,j.drop s,x,y,v,by omega,rfl,by go_num,HX.o,L.o,by rw[cO,t],HBk.o,H.o⟩
        case measure=>first | (simp[intOf];done) | (simp[intOf];omega)
  . obtain rfl:i=3:=by omega
    have HE:=aa HA.o.a;have hs:=HM.o.b;have xO:Hid (Below wr.heap.size wr (wr.alloc (K #[I J x,I J y,I J z,Z u f c] 264))):=(ar _ wr).alloc (ak _) _;have HF:=aa (fun W=>Ep ⟨x,y,z,j⟩ u f c t W);dsimp only at HF;have hs2:(wr.alloc (K #[I J x,I J y,I J z,Z u f c] 264)).heap.size=w.heap.size+3:=by rw[bF,hs]
    have yG:Hid (∀W,Below (w.heap.size+3) (wr.alloc (K #[I J x,I J y,I J z,Z u f c] 264)) W->W.heap[w.heap.size]? = M (K #[I J 0,I J 0,I J 0,Z U 0 0] 264 (0,0))∧W.heap[w.heap.size+2]? = M (K #[I J x,I J y,I J z,Z u f c] 264 (0,0))∧aB W u c j∧Below w.heap.size w W):=fun W hW=>by
     refine⟨(hW.block _ (by omega)).trans ((Below.heap_alloc _ _ _ (by omega)).trans HM.o.a),(hW.block _ (by omega)).trans ?_,D.o.a (xO.o.trans (hW.mono (by omega))),HM.o.below.trans ((xO.o.trans (hW.mono (by omega))).mono (by omega))⟩;have:=aX wr (K #[I J x,I J y,I J z,Z u f c] 264);rw[hs] at this;exact this
    have ZF:=aa (HF.o (wr.alloc (K #[I J x,I J y,I J z,Z u f c] 264)));rw[hs2] at ZF;have hnn:f<=1000000000:=by omega
    clear HF HR hlt hle;cases hf:df ⟨x,y,z,j⟩ with
    | false =>
      have HN:Hid (iK b=U):=by unfold Hid;rw[HE.o,if_neg (by simp[hf])]
      rw[hf] at ZF;clear hf HE;go_upto_region 12 with (go_at_call 291;refine ZF.o.mono ?_;rintro e r ⟨rfl,T⟩;have HB3:=aa T;clear T)
      obtain⟨B,_,_,hb⟩:=yG.o r HB3.o;have Ij:=aa hb;have HR3:=aa B;obtain⟨⟨a0,a1,a2,a3⟩,g0,g1,g2,g3⟩:=dU B;clear B hb;go_wp2;obtain⟨q,EN⟩:=lT HR3.o (I J 0) (I J 0) (I J 0) (Z U 0 0);generalize ((((r.setCell ⟨w.heap.size,0,U⟩ (Value.int J 0)).setCell ⟨w.heap.size,1,U⟩ (Value.int J 0)).setCell ⟨w.heap.size,2,U⟩ (Value.int J 0)).setCell ⟨w.heap.size,3,U⟩ (Value.slice U 0 0))=m at q EN ⊢;obtain⟨⟨r0,r1,r2,r3⟩,_⟩:=dU q;refine aR (v:=.tuple #[.agg #[I J 0,I J 0,I J 0,Z U 0 0],.bool F]) (by simp[results,results247,go_sem,r0,r1,r2,r3]) rfl (.no HN.o (Ij.o.trans (EN.below (fun k e=>by omega) Ij.o.size)))
    | true =>
      have HY:Hid (iK b=M ⟨x,y,z,j⟩):=by unfold Hid;rw[HE.o,if_pos hf]
      rw[hf] at ZF;obtain⟨i0,hi0,hz0,hz1,hz2⟩:=info_parts gG;have Hi:=aa hi0;have lg:=aa hz0;have kZ:=aa hz1;have lq:=aa hz2
      clear hf HE hi0 hz0 hz1 hz2;go_upto_region 13 with (go_at_call 291;refine ZF.o.mono ?_;rintro e r ⟨rfl,T⟩;have HB3:=aa T;clear T)
      obtain⟨B,hq3,VR,hb⟩:=yG.o r HB3.o;have HI3:=aa VR;have hz3:w.heap.size+3<=r.heap.size:=by have:=HB3.o.size;omega
      have VT:Hid (∀m,am (fun k=>cw [] U=M k) r m->Below r.heap.size r m∧(m.heap[w.heap.size]? = M (K #[I J 0,I J 0,I J 0,Z U 0 0] 264 (0,0))∧m.heap[w.heap.size+2]? = M (K #[I J x,I J y,I J z,Z u f c] 264 (0,0)))):=fun m ht=>by
       have C:Below r.heap.size r m:=ht.below (fun k e=>by simp[cw] at e) (ak _);exact⟨C,(C.block _ (by omega)).trans B,(C.block _ (by omega)).trans hq3⟩
      have Ij:=aa hb;clear B hb hq3 VR;go_upto_region 14 with (at_builtin;refine xX (S:=fun _=>False) rfl (.const (Z U 0 0)) (.tmp 39) 31 rfl 5 i0 underlying31 Hi.o lg.o kZ.o lq.o (l:=[]) rfl rfl (bK.f _ _ _) rfl HI3.o t (by omega) ?_;intro VU VW m hO4 yX;obtain⟨C,q,hq4⟩:=VT.o m yX;have HR4:=aa q;have HQ4:=aa hq4;obtain⟨⟨k0,k1,k2,k3⟩,l0,l1,l2,l3⟩:=dU hq4;have jL:=aa C;have OL:=aa hO4;clear hO4 yX C q hq4)
      have AQ:am (fun k=>k=w.heap.size+2) m (m.setCell ⟨w.heap.size+2,3,U⟩ (Z VU f VW)):=am.r _ m _ _ rfl;have hq5:=aP m (w.heap.size+2) 3 _ _ (Z VU f VW) HQ4.o;have oD:=AQ.y HR4.o (by omega);have zL:Hid (dL (m.setCell ⟨w.heap.size+2,3,U⟩ (Z VU f VW)) (fun k=>r.heap.size<=k) VU VW j):=by
       have N:=OL.o;rw[kX] at N;refine(N.G.a (S':=fun k=>r.heap.size<=k) (fun k _ e=>?_)).f AQ (fun k e e2=>by omega);rcases e with e | e
       . simp[cw] at e
       . exact e
      have oC:Hid (Below w.heap.size w (m.setCell ⟨w.heap.size+2,3,U⟩ (Z VU f VW))):=(Ij.o.trans (jL.o.mono (by omega))).trans (AQ.below (fun k e=>by omega) (by have:=jL.o.size;omega));generalize m.setCell ⟨w.heap.size+2,3,U⟩ (Z VU f VW)=w5 at *;obtain⟨⟨m0,m1,m2,m3⟩,_⟩:=dU hq5;obtain⟨⟨p0,p1,p2,p3⟩,q0,q1,q2,q3⟩:=dU oD;have HR5:=aa oD;clear oD hq5 AQ HQ4 HR4 OL k0 k1 k2 k3 l0 l1 l2 l3;go_wp2;obtain⟨Cj,ht6⟩:=lT HR5.o (I J x) (I J y) (I J z) (Z VU f VW);generalize ((((w5.setCell ⟨w.heap.size,0,U⟩ (Value.int J x)).setCell ⟨w.heap.size,1,U⟩ (Value.int J y)).setCell ⟨w.heap.size,2,U⟩ (Value.int J z)).setCell ⟨w.heap.size,3,U⟩ (Value.slice VU f VW))=w6 at Cj ht6 ⊢;obtain⟨⟨r0,r1,r2,r3⟩,_⟩:=dU Cj;have hy:=wG.yes (w:=w) (b:=b) (w':=w6) ⟨x,y,z,j⟩ VU VW HY.o ((zL.o.f ht6 (fun k e e2=>by omega)).a (fun k _ e=>by omega)) (oC.o.trans (ht6.below (fun k e=>by omega) oC.o.size));dsimp only at hy;rw[t] at hy;refine aR (v:=.tuple #[.agg #[I J x,I J y,I J z,Z VU f VW],.bool true]) (by simp[results,results247,go_sem,r0,r1,r2,r3]) rfl hy
structure dH (w:X)(base g:Nat)(b:ab)(sure:Nat)(ao:ag)(ca:Nat):Prop where
 a:w.heap[g]? = M (K #[Z ao b.length ca,I J (sure:Int)] 182 (0,0))
 c:bl w base 5 ao ca b
 e:base<=g
 h:sure<=b.length
 d:b.length<=100000
theorem ce {W:X}{g t:Nat}{a b:Value}(h:W.heap[g]? = M (K #[a,b] t (0,0))):(W.cell? ⟨g,0,U⟩=M a∧W.cell? ⟨g,1,U⟩=M b)∧(W.frozen? ⟨g,0,U⟩=F∧W.frozen? ⟨g,1,U⟩=F) :=
 ⟨⟨aq W g 0 _ _ _ h,aq W g 1 _ _ _ h⟩,aN W g 0 _ _ h,aN W g 1 _ _ h⟩
section
variable {w w':X} {base g:Nat} {b:ab} {sure:Nat} {ao:ag} {ca:Nat}
theorem dH.j (h:dH w base g b sure ao ca)(a:Below w.heap.size w w'):dH w' base g b sure ao ca:=⟨(a.block g (bO.1 h.a).1).trans h.a,h.c.G a,h.e,h.h,h.d⟩
theorem dH.f (h:dH w base g b sure ao ca):g<w.heap.size:=(bO.1 h.a).1
theorem To:(182:Nat)≠5:=by decide
theorem dH.r (h:dH w base g b sure ao ca):∀a,ao=M a->a.block≠g:=by
 intro a e c;have:=gH h.a h.c To;rw[dq,e] at this;exact this (by rw[<-c];rfl)
theorem M5 (w:X):Calls prog 46 #[] w fun e w'=>e=Y (Q (M ⟨w.heap.size,0,U⟩))∧dH w' w.heap.size w.heap.size [] 0 U 0∧Below w.heap.size w w':=by
 have H:Hid (dH (w.alloc (K #[Z U 0 0,I J 0] 182)) w.heap.size w.heap.size [] 0 U 0∧Below w.heap.size w (w.alloc (K #[Z U 0 0,I J 0] 182))) :=
  ⟨⟨aX w _,bl.y _ _ _,ak _,ak _,by decide⟩,(ar _ w).alloc (ak _) _⟩
 go_enter func46,ntmps46;go_wp2;go_ret;exact⟨rfl,H.o⟩
theorem L8 (h:dH w base g b sure ao ca):Calls prog 62 #[Q (M ⟨g,0,U⟩)] w fun e w'=>e=Y (I J (sure:Int))∧w'=w:=by
 obtain⟨⟨a,c⟩,_⟩:=ce h.a;clear h;go_enter func62,ntmps62;go_wp2;go_ret;exact⟨rfl,rfl⟩
theorem BI (h:dH w base g b sure ao ca)(n:Int):Calls prog 270 #[Q (M ⟨g,0,U⟩),I J n] w fun e w'=>e=Y (.bool (decide (0<=n)&&decide (n<=100000-(b.length:Int))))∧w'=w:=by
 have f:=ce h.a;have i:=h.d;have j:IntKind.i64.wrap (100000-(b.length:Int))=100000-(b.length:Int):=ja (by omega) (by omega);generalize b.length=m at *;by_cases c:0<=n
 . by_cases d:n<=100000-(m:Int)
   . have a:(decide (0<=n)&&decide (n<=100000-(m:Int)))=true:=by rw[br c,br d];rfl
     generalize (decide (0<=n)&&decide (n<=100000-(m:Int)))=r at *;go_enter func270,ntmps270;go_wp2;go_ret;exact⟨by rw[a];first | rfl | simp,rfl⟩
   . have a:Hid ((decide (0<=n)&&decide (n<=100000-(m:Int)))=F):=by unfold Hid;rw[ba d];simp
     generalize (decide (0<=n)&&decide (n<=100000-(m:Int)))=r at *;go_enter func270,ntmps270;go_wp2;go_ret;exact⟨by rw[a.o];first | rfl | (simp;done) | (simp;omega),rfl⟩
 . have a:Hid ((decide (0<=n)&&decide (n<=100000-(m:Int)))=F):=by unfold Hid;rw[ba c];rfl
   generalize (decide (0<=n)&&decide (n<=100000-(m:Int)))=r at *;go_enter func270,ntmps270;go_wp2;go_ret;exact⟨by rw[a.o];first | rfl | simp,rfl⟩
theorem bl.kU {t:Nat}(h:bl w base t ao ca b)(n:Nat)(q:n<=b.length):bl w base t ao ca (b.take n):=by
 have i:(b.take n).length=n:=by rw[bU];omega
 have e:bA (b.take n)=(bA b).take n:=by unfold bA;rw[List.map_take]
 unfold bl;rw[i,e];refine⟨by rw[bU,dr];omega,?_⟩;rcases h.2 with ⟨a,r⟩ | ⟨g,f,c,a,j,k,l,m,o,p⟩
 . left;injection a with a _ d;subst a;subst d;have:n=0:=by omega
   subst this;exact⟨rfl,rfl⟩
 . right;injection a with a _ d;subst a;subst d;refine⟨g,ca,c,rfl,j,k,by omega,m,o,?_⟩;rw[<-p,List.take_take];congr 1;omega
theorem Ig (h:dH w base g b sure ao ca):Calls prog 61 #[Q (M ⟨g,0,U⟩)] w fun e w'=>∃gL zN,e=Y (Z gL b.length zN)∧aB w' gL zN b∧Below w.heap.size w w':=by
 obtain⟨⟨p,G⟩,_⟩:=ce h.a;have q:=h.c.f;have r:=h.d;obtain⟨s,c,d,f,i⟩:=info_parts gG;have t:=c;have u:=aa d;have v:=aa f;have x:=aa i
 obtain⟨m,j⟩:∃m,b.length=m:=⟨_,rfl⟩;rw[j] at p r;rw[j];go_enter func61,ntmps61;go_wp2_with (at_builtin;refine xX (S:=fun _=>False) rfl (.const (Z U 0 0)) (.tmp 6) 31 rfl 5 s underlying31 t u.o v.o x.o (l:=[]) rfl rfl (bK.f _ _ _) rfl q j (by omega) ?_;intro y z B a n;have C:=aa a.B;have D:Hid (Below w.heap.size w B):=n.below (fun k e=>by simp[cw] at e) (ak _);clear a n)
 go_ret;exact⟨y,z,by first | rfl | simp,by have:=C.o;rwa[kX] at this,D.o⟩
theorem dH.G (h:dH w base g b sure ao ca)(n:Nat)(c:n<=b.length):dH (w.setCell ⟨g,1,U⟩ (I J (n:Int))) base g b n ao ca∧am (fun k=>k=g) w (w.setCell ⟨g,1,U⟩ (I J (n:Int))):=by
 have a:am (fun k=>k=g) w (w.setCell ⟨g,1,U⟩ (I J (n:Int))):=am.r _ w _ _ rfl;exact⟨⟨aP w g 1 _ _ _ h.a,h.c.j a h.r,h.e,c,h.d⟩,a⟩
theorem Cf (h:dH w base g b sure ao ca):Calls prog 181 #[Q (M ⟨g,0,U⟩)] w fun e w'=>e=Y (.tuple #[])∧dH w' base g b b.length ao ca∧am (fun k=>k=g) w w':=by
 obtain⟨⟨c,d⟩,f,i⟩:=ce h.a;have a:=aa (h.G b.length (ak _));clear h;generalize b.length=m at *;go_enter func181,ntmps181;go_wp2;go_end0
 exact⟨rfl,a.o⟩
theorem dH.B (h:dH w base g b sure ao ca)(n:Nat)(d:n<=b.length):dH ((w.setCell ⟨g,0,U⟩ (Z ao n ca)).setCell ⟨g,1,U⟩ (I J ((min sure n:Nat):Int))) base g (b.take n) (min sure n) ao ca∧am (fun k=>k=g) w ((w.setCell ⟨g,0,U⟩ (Z ao n ca)).setCell ⟨g,1,U⟩ (I J ((min sure n:Nat):Int))):=by
 have f:am (fun k=>k=g) w (w.setCell ⟨g,0,U⟩ (Z ao n ca)):=am.r _ w _ _ rfl;have i:am (fun k=>k=g) (w.setCell ⟨g,0,U⟩ (Z ao n ca)) ((w.setCell ⟨g,0,U⟩ (Z ao n ca)).setCell ⟨g,1,U⟩ (I J ((min sure n:Nat):Int))):=am.r _ _ _ _ rfl;have c:=f.a i (fun _ e _=>e);have a:(b.take n).length=n:=by rw[bU];omega
 have j:=aP _ g 1 _ _ (I J ((min sure n:Nat):Int)) (aP w g 0 _ _ (Z ao n ca) h.a);refine⟨⟨by rw[a];exact j,(h.c.j c h.r).kU n d,h.e,by rw[a];omega,by rw[a];have:=h.d;omega⟩,c⟩
theorem Er (h:dH w base g b sure ao ca)(n:Int)(a:¬(0<=n∧n<b.length)):Calls prog 128 #[Q (M ⟨g,0,U⟩),I J n] w fun e w'=>e=Y (.tuple #[])∧w'=w:=by
 obtain⟨⟨c,d⟩,f,i⟩:=ce h.a;clear h;generalize b.length=m at *;by_cases j:n<0
 . clear a;go_enter func128,ntmps128;go_wp2;refine aR (results_none rfl _ _ _) rfl ?_;exact⟨rfl,rfl⟩
 . have k:(m:Int)<=n:=by omega
   clear a;go_enter func128,ntmps128;go_wp2;refine aR (results_none rfl _ _ _) rfl ?_;exact⟨rfl,rfl⟩
theorem CT (h:dH w base g b sure ao ca)(n:Nat)(i:n<b.length):Calls prog 128 #[Q (M ⟨g,0,U⟩),I J (n:Int)] w fun e w'=>e=Y (.tuple #[])∧dH w' base g (b.take n) (min sure n) ao ca∧am (fun k=>k=g) w w':=by
 obtain⟨⟨j,l⟩,p,q⟩:=ce h.a;have a:=aa (h.B n (by omega));have f:=h.c.f.1;clear h;have r:¬(n:Int)<0:=by omega
 have s:¬(b.length:Int)<=n:=by omega
 have t:(n:Int)<=ca:=by omega
 generalize b.length=m at *;have u:(n:Int)<=m:=by omega
 by_cases v:n<sure
 . have c:min sure n=n:=by omega
   have d:(n:Int)<sure:=by omega
   rw[c] at a ⊢;go_enter func128,ntmps128;go_wp2;go_end0
   exact⟨rfl,a.o⟩
 . have c:min sure n=sure:=by omega
   have d:¬(n:Int)<sure:=by omega
   rw[c] at a ⊢;go_enter func128,ntmps128;go_wp2;go_end0
   exact⟨rfl,a.o⟩
end
theorem nX (x c:ae)(l:ab)(h:c.data.toList=l):(x=c)<->(x.toList==l)=true:=by
 rw[cR,Lib.toList_data,<-h];refine⟨fun e=>by rw[e],fun e=>?_⟩;cases x;cases c;simp only at e;congr 1;exact vq.1 e
theorem xH (v l:ab):(v=l)<->((⟨v.toArray⟩:ae).toList==l)=true:=by
 rw[cR,Lib.toList_data]
theorem P8 (t:ae):(t.extract 0 7).toList=t.data.toList.take 7:=by
 rw[Lib.toList_data,Lib.extract_data];simp
theorem GX (t:ae):(t.extract 7 t.size).data.toList=t.data.toList.drop 7:=by
 rw[Lib.extract_data,gF];rw[cO,cJ];exact ak _
theorem GU {t:ae}(h:¬(7<t.size∧t.data.toList.take 7=kr.data.toList∧(bB 10 9 (t.data.toList.drop 7)).2=true∧bx 8 (bB 10 9 (t.data.toList.drop 7)).1.toNat=t.data.toList.drop 7))(s:aA):lJ s t=U:=by
 unfold lJ uY;rw[if_neg h]
theorem PW {t:ae}(h:7<t.size∧t.data.toList.take 7=kr.data.toList∧(bB 10 9 (t.data.toList.drop 7)).2=true∧bx 8 (bB 10 9 (t.data.toList.drop 7)).1.toNat=t.data.toList.drop 7)(s:aA):lJ s t=match cE s.l (bB 10 9 (t.data.toList.drop 7)).1 with
 | none=>U
 | some i=>s.l[i]?:=by
 unfold lJ uY;rw[if_pos h];rfl
def nB (x:aH):ab×Nat:=if df x=true then (aW x,0) else ([],1)
def gK (x:aH):Nat->ab
 | 0=>[]
 | 1=>ik x.b
 | 2=>ik x.b++ik x.a
 | _=>ka x
def lQ (w:X)(x:aH)(e:Ending)(w':X):Prop:=∃ao cap,e=Y (.tuple #[Z ao (nB x).1.length cap,I J ((nB x).2:Int)])∧bl w' w.heap.size 5 ao cap (nB x).1∧Below w.heap.size w w'
theorem rA {w W:X}{a b c d:Value}{t B:Nat}(e:w.heap.size<B)(h:Below B (w.alloc (K #[a,b,c,d] t)) W):W.cell? ⟨w.heap.size,0,U⟩=M a∧W.cell? ⟨w.heap.size,1,U⟩=M b∧W.cell? ⟨w.heap.size,2,U⟩=M c∧W.cell? ⟨w.heap.size,3,U⟩=M d:=by
 refine⟨?_,?_,?_,?_⟩
 . rw[h.cell (p:=⟨w.heap.size,0,U⟩) e];exact World.cell?_alloc_mark w _ _ _ 0
 . rw[h.cell (p:=⟨w.heap.size,1,U⟩) e];exact World.cell?_alloc_mark w _ _ _ 1
 . rw[h.cell (p:=⟨w.heap.size,2,U⟩) e];exact World.cell?_alloc_mark w _ _ _ 2
 . rw[h.cell (p:=⟨w.heap.size,3,U⟩) e];exact World.cell?_alloc_mark w _ _ _ 3
theorem AE (W:X)(a b c:Value):
 (Instr.index 273 (.agg #[a,b,c]) (I J 0)).run prog W=.ok a W ∧
 (Instr.index 273 (.agg #[a,b,c]) (I J 1)).run prog W=.ok b W ∧
 (Instr.index 273 (.agg #[a,b,c]) (I J 2)).run prog W=.ok c W:=by
 refine⟨by kernel_rfl,by kernel_rfl,by kernel_rfl⟩
theorem sZ (x:aH)(k:ag)(c p:Nat)(w:X)(hT:aB w k p x.c)(hn:x.c.length=c):
 Calls prog 239 #[.agg #[I J x.b,I J x.a,I J x.n,Z k c p]] w fun e w'=>lQ w x e w':=by
 have N:Below w.heap.size w (w.alloc (K #[I J x.b,I J x.a,I J x.n,Z k c p] 264)):=(ar _ w).alloc (ak _) _;have S:=Ep x k c p hn (w.alloc (K #[I J x.b,I J x.a,I J x.n,Z k c p] 264));have q:(w.alloc (K #[I J x.b,I J x.a,I J x.n,Z k c p] 264)).heap.size=w.heap.size+1:=by simp
 have HC:∀W,Below (w.heap.size+1) (w.alloc (K #[I J x.b,I J x.a,I J x.n,Z k c p] 264)) W->W.cell? ⟨w.heap.size,0,U⟩=M (I J x.b)∧W.cell? ⟨w.heap.size,1,U⟩=M (I J x.a)∧W.cell? ⟨w.heap.size,2,U⟩=M (I J x.n)∧W.cell? ⟨w.heap.size,3,U⟩=M (Z k c p):=fun W h=>rA (by omega) h;rw[q] at S;have HT:∀W,Below (w.heap.size+1) (w.alloc (K #[I J x.b,I J x.a,I J x.n,Z k c p] 264)) W->aB W k p x.c:=fun W h=>hT.a (N.trans (h.mono (by omega)));have T:∀W,Below (w.heap.size+1) (w.alloc (K #[I J x.b,I J x.a,I J x.n,Z k c p] 264)) W->Below w.heap.size w W:=fun W h=>N.trans (h.mono (by omega));obtain⟨i0,hi0,hz0,hz1,hz2⟩:=info_parts gG;have Hi:=hi0;have lg:=aa hz0;have kZ:=aa hz1;have lq:=aa hz2
 cases D:df x with
 | false =>
   rw[D] at S;have HE:Hid (nB x=([],1)):=by unfold Hid nB;rw[if_neg (by simp[D])]
   go_enter func239,ntmps239;go_wp2_with (go_at_call 291;refine S.mono ?_;rintro e w2 ⟨rfl,r⟩;have v:=aa r;clear r)
   go_ret2;exact⟨U,0,by rw[HE.o];rfl,by rw[HE.o];exact bl.y _ _ _,T _ v.o⟩
 | true =>
   rw[D] at S;have HE:Hid (nB x=(aW x,0)):=by unfold Hid nB;rw[if_pos D]
   obtain⟨k1,k2,k3,k4⟩:=(uq x).1 D;have hhl:=EC D;have hil:=nO D;rw[hn] at k4;have hin:(dQ x).length=(ka x).length+c:=by rw[dQ,aD,hn]
   have ah6:Hid (aW x=bS ((ka x).length+c+1)++ka x++x.c):=by
    unfold Hid aW;rw[hin,dQ,iY]
   go_enter func239,ntmps239;go_upto_region 3 with (go_at_call 291;refine S.mono ?_;rintro e w2 ⟨rfl,r⟩;have v:=aa r;clear r)
   have HB1:=v.o;obtain⟨c0,c1,c2,c3⟩:=HC _ v.o;generalize w.alloc (K #[I J x.b,I J x.a,I J x.n,Z k c p] 264)=w1 at *;go_wp2;have HPl:∀i,(gK x i).length<=15:=fun i=>by
    have e:(ka x).length=(ik x.b).length+(ik x.a).length+(ik x.n).length:=by simp[ka,Nat.add_assoc]
    match i with
    | 0=>simp[gK]
    | 1=>simp only[gK];omega
    | 2=>simp only[gK,aD];omega
    | (n+3)=>exact hhl
   go_loopw [4,18] (fun vo vi wr=>∃(i m:Nat) (g:ag) (j:Nat),i<=3∧vi=I J i∧vo=Z g m j∧bl wr (w.heap.size+1) 5 g j (gK x i)∧(gK x i).length=m∧Below (w.heap.size+1) w1 wr) (fun _ vi _=>3-(intOf vi).toNat)
   case atStart=>exact⟨0,0,U,0,by omega,rfl,rfl,bl.y _ _ _,rfl,HB1⟩
   case round =>
    obtain⟨i,m,g,j,hi,rfl,rfl,hO,hL,hB⟩:=hrel;have HO:=hO;have s:=aa hB;have t:=aa hL
    have hm:m<=15:=by have:=HPl i;omega
    rcases(show i=0∨i=1∨i=2∨i=3 by omega) with rfl | rfl | rfl | rfl
    . have G:∀W g j m,bl W (w.heap.size+1) 5 g j (gK x 0)->(gK x 0).length=m->m<=15->Below (w.heap.size+1) w1 W->Calls prog 292 #[Z g m j,I J x.b] W fun e w'=>∃u a,e=Y (Z u (m+(bS (x.b+1).toNat).length) a)∧bl w' (w.heap.size+1) 5 u a (gK x 0++bS (x.b+1).toNat)∧Below (w.heap.size+1) W w':=fun W g j m h1 h2 h3 h4=>xY (x.b+1).toNat (by omega) (w.heap.size+1) g j m _ W h1 h2 (by omega) (by have:=h4.size;have:=q;omega) x.b (by omega);have hx:=(AE wr (I J x.b) (I J x.a) (I J x.n)).1;have B:gK x 1=gK x 0++bS (x.b+1).toNat:=rfl;go_wp2_with (go_at_call 292;refine(G _ _ _ _ HO t.o hm s.o).mono ?_;rintro e w3 ⟨H,L,rfl,d,b⟩;have C:=aa d;have f:=aa b;clear d b)
      go_roundw
      case rel=>exact⟨1,_,H,L,by omega,rfl,rfl,by rw[B];exact C.o,by rw[B,aD,t.o],s.o.trans f.o⟩
      case measure=>first | (simp[intOf];done) | (simp[intOf];omega)
    . have G:∀W g j m,bl W (w.heap.size+1) 5 g j (gK x 1)->(gK x 1).length=m->m<=15->Below (w.heap.size+1) w1 W->Calls prog 292 #[Z g m j,I J x.a] W fun e w'=>∃u a,e=Y (Z u (m+(bS (x.a+1).toNat).length) a)∧bl w' (w.heap.size+1) 5 u a (gK x 1++bS (x.a+1).toNat)∧Below (w.heap.size+1) W w':=fun W g j m h1 h2 h3 h4=>xY (x.a+1).toNat (by omega) (w.heap.size+1) g j m _ W h1 h2 (by omega) (by have:=h4.size;have:=q;omega) x.a (by omega);have hx:=(AE wr (I J x.b) (I J x.a) (I J x.n)).2.1;have B:gK x 2=gK x 1++bS (x.a+1).toNat:=rfl;go_wp2_with (go_at_call 292;refine(G _ _ _ _ HO t.o hm s.o).mono ?_;rintro e w3 ⟨H,L,rfl,d,b⟩;have C:=aa d;have f:=aa b;clear d b)
      go_roundw
      case rel=>exact⟨2,_,H,L,by omega,rfl,rfl,by rw[B];exact C.o,by rw[B,aD,t.o],s.o.trans f.o⟩
      case measure=>first | (simp[intOf];done) | (simp[intOf];omega)
    . have G:∀W g j m,bl W (w.heap.size+1) 5 g j (gK x 2)->(gK x 2).length=m->m<=15->Below (w.heap.size+1) w1 W->Calls prog 292 #[Z g m j,I J x.n] W fun e w'=>∃u a,e=Y (Z u (m+(bS (x.n+1).toNat).length) a)∧bl w' (w.heap.size+1) 5 u a (gK x 2++bS (x.n+1).toNat)∧Below (w.heap.size+1) W w':=fun W g j m h1 h2 h3 h4=>xY (x.n+1).toNat (by omega) (w.heap.size+1) g j m _ W h1 h2 (by omega) (by have:=h4.size;have:=q;omega) x.n (by omega);have hx:=(AE wr (I J x.b) (I J x.a) (I J x.n)).2.2;have B:gK x 3=gK x 2++bS (x.n+1).toNat:=rfl;go_wp2_with (go_at_call 292;refine(G _ _ _ _ HO t.o hm s.o).mono ?_;rintro e w3 ⟨H,L,rfl,d,b⟩;have C:=aa d;have f:=aa b;clear d b)
      go_roundw
      case rel=>exact⟨3,_,H,L,by omega,rfl,rfl,by rw[B];exact C.o,by rw[B,aD,t.o],s.o.trans f.o⟩
      case measure=>first | (simp[intOf];done) | (simp[intOf];omega)
    . obtain⟨d0,d1,d2,d3⟩:=HC _ s.o;have HPh:gK x 3=ka x:=rfl;rw[HPh] at HO t;have y:Hid (w.heap.size+1<=wr.heap.size):=by have:=s.o.size;have:=q;unfold Hid;omega
      have G:Hid (Calls prog 292 #[Z U 0 0,I J ((m:Int)+c)] wr fun e w'=>∃u a,e=Y (Z u (bS (m+c+1)).length a)∧bl w' wr.heap.size 5 u a (bS (m+c+1))∧Below wr.heap.size wr w'):=by
       have:=xY (m+c+1) (by omega) wr.heap.size U 0 0 [] wr (bl.y _ _ _) rfl (by omega) (ak _) ((m:Int)+c) (by omega);unfold Hid;simpa using this
      have hwr:IntKind.i64.wrap ((m:Int)+c)=(m:Int)+c:=ja (by omega) (by omega);have hnl:(bS (m+c+1)).length<=5:=xc 4 _ (by omega);have HE2:aW x=bS (m+c+1)++ka x++x.c:=by rw[ah6.o,t.o]
      have AU:x.c.length=c:=hn;generalize bS (m+c+1)=nm at *;go_wp2_with (first
       | (go_at_call 292;refine G.o.mono ?_;rintro e w3 ⟨H,L,rfl,d,b⟩;have C:=aa d;have f:=aa b;have HI3:=aa (HO.f.a b);clear d b)
       | (at_builtin;refine oe rfl (.tmp 32) (.tmp 33) 31 rfl wr.heap.size 5 i0 underlying31 Hi lg.o kZ.o lq.o (l:=nm) (l2:=ka x) rfl rfl C.o rfl t.o HI3.o (by omega) f.o.size ?_;intro sD yY w4 hO4 hG4;have z:=f.o.trans (oi C.o hG4 f.o.size);have OL:=aa hO4;have jL:=aa z;have ah8:=aa (s.o.trans (z.mono y.o));obtain⟨e0,e1,e2,e3⟩:=HC _ (s.o.trans (z.mono y.o));clear hO4 hG4 z)
       | (at_builtin;refine oe rfl (.tmp 35) (.tmp 37) 31 rfl wr.heap.size 5 i0 underlying31 Hi lg.o kZ.o lq.o (l:=nm++ka x) (l2:=x.c) rfl (by rw[aD,t.o]) OL.o rfl AU (HT _ ah8.o) (by omega) jL.o.size ?_;intro zU ca5 w5 xW NM;have hb5:=jL.o.trans (oi OL.o NM jL.o.size);have zL:=aa xW;have oC:=aa (s.o.trans (hb5.mono y.o));clear xW NM hb5))
      go_ret2;exact⟨zU,ca5,by rw[HE.o,HE2,aD,aD,t.o,AU];rfl,by rw[HE.o,HE2];exact zL.o.B (by have:=y.o;omega),T _ oC.o⟩
inductive AC (w:X)(b:ab):Ending->X->Prop
 | no {w'}:ex b=U->Below w.heap.size w w'->AC w b (Y (.tuple #[.agg #[I J 0,I J 0,I J 0,Z U 0 0],I J 0])) w'
 | yes {w'} (e:aH) (s:Nat) (ta:ag) (tc:Nat):ex b=M (e,s)->dL w' (fun k=>w.heap.size<=k) ta tc e.c->Below w.heap.size w w'->AC w b (Y (.tuple #[.agg #[I J e.b,I J e.a,I J e.n,Z ta e.c.length tc],I J (s:Int)])) w'
theorem ME {b:ab}(h:dm b=U):ex b=U:=by unfold ex;rw[h]
theorem N6 {b:ab}{x:Int}{s:Nat}(h:dm b=M (x,s))(a:¬(0<=x∧x<=(b.length:Int)-s)):ex b=U:=by unfold ex;rw[h];simp only;rw[if_neg a]
theorem MG {b:ab}{x:Int}{s:Nat}(h:dm b=M (x,s))(a:0<=x∧x<=(b.length:Int)-s):ex b=(iK ((b.drop s).take x.toNat)).map fun e=>(e,s+x.toNat):=by unfold ex;rw[h];simp only;rw[if_pos a]
theorem Ib (b:ab)(ao:ag)(cap n:Nat)(w:X)(hB:aB w ao cap b)(hn:b.length=n)(hN:n<=1000000000):
 Calls prog 185 #[Z ao n cap] w fun e w'=>AC w b e w':=by
 have G:Below w.heap.size w (w.alloc (K #[I J 0,I J 0,I J 0,Z U 0 0] 264)):=(ar _ w).alloc (ak _) _;have hs1:(w.alloc (K #[I J 0,I J 0,I J 0,Z U 0 0] 264)).heap.size=w.heap.size+1:=by simp
 have HR:=aa (Ht b ao cap n _ (hB.a G) hn hN);have hcap:=hB.1;have H:Hid (∀W,Below (w.heap.size+1) (w.alloc (K #[I J 0,I J 0,I J 0,Z U 0 0] 264)) W->W.heap[w.heap.size]? = M (K #[I J 0,I J 0,I J 0,Z U 0 0] 264 (0,0))∧Below w.heap.size w W∧aB W ao cap b):=fun W hW =>
  ⟨(hW.block _ (by omega)).trans (aX w _),G.trans (hW.mono (by omega)),hB.a (G.trans (hW.mono (by omega)))⟩
 have HZ:=aa hs1;clear hB G hs1;have c:=H.o _ (ar _ _);obtain⟨⟨c0,c1,c2,c3⟩,f0,f1,f2,f3⟩:=dU c.1;have HR1:=aa c.1;have r:=aa c.2.1;have HI1:=aa c.2.2;clear c;go_enter func185,ntmps185;go_upto_region 1 with fail
 generalize w.alloc (K #[I J 0,I J 0,I J 0,Z U 0 0] 264)=f at *;cases L:dm b with
 | none =>
   rw[CR L] at HR;have D:=aa (ME L);clear L;go_wp2_with (go_at_call 246;refine HR.o.mono ?_;rintro e d ⟨rfl,l⟩;rw[l];clear l)
   obtain⟨a,EN⟩:=lT HR1.o (I J 0) (I J 0) (I J 0) (Z U 0 0);generalize ((((f.setCell ⟨w.heap.size,0,U⟩ (Value.int J 0)).setCell ⟨w.heap.size,1,U⟩ (Value.int J 0)).setCell ⟨w.heap.size,2,U⟩ (Value.int J 0)).setCell ⟨w.heap.size,3,U⟩ (Value.slice U 0 0))=w4 at a EN ⊢;obtain⟨⟨N,T,r2,r3⟩,_⟩:=dU a;refine aR (v:=.tuple #[.agg #[I J 0,I J 0,I J 0,Z U 0 0],I J 0]) (by simp[results,results185,go_sem,N,T,r2,r3]) rfl (.no D.o (r.o.trans (EN.below (fun k e=>by omega) r.o.size)))
 | some p =>
   obtain⟨x,s⟩:=p;rw[CS L] at HR;have hrl:=xb L;have ts:((s:Int)==0)=F:=by rw[aQ];omega
   have hws:IntKind.i64.wrap ((n:Int)-s)=(n:Int)-s:=ja (by omega) (by omega);by_cases hx:0<=x∧x<=(n:Int)-s
   . have D:=aa (MG L (by rw[hn];exact hx));obtain⟨hx0,hx1⟩:=hx;obtain⟨m,rfl⟩:∃m:Nat,x=m:=⟨x.toNat,by omega⟩;rw[Int.toNat_natCast] at D;clear L;obtain⟨u,y,rfl,hcs⟩:=HI1.o.r (by omega);clear hcs;have t1:¬(m:Int)<0:=by omega
     have t2:¬(n:Int)-s<m:=by omega
     have i1:(s:Int)<=(s:Int)+m:=by omega
     have i2:(s:Int)+m<=cap:=by omega
     have hwm:IntKind.i64.wrap ((s:Int)+m)=(s:Int)+m:=ja (by omega) (by omega);have hsb:(s:Int)<=cap:=by omega
     have i3:((s:Int)+m).toNat=s+m:=by omega
     have HIn:Hid (∀W,Below (w.heap.size+1) f W->Calls prog 247 #[Z (if cap=s then M ⟨u,y,U⟩ else M ⟨u,y+s,U⟩) m (cap-s)] W fun e w'=>wG W ((b.drop s).take m) e w'):=fun W hW=>by
      have c:=(H.o W hW).2.2.G (gL:=if cap=s then M ⟨u,y,U⟩ else M ⟨u,y+s,U⟩) s (s+m) (by omega) (by omega) (fun e=>by rw[if_neg e];simp[Addr.add_lit]);rw[show s+m-s=m by omega] at c;exact KM _ _ _ m W c (by rw[bU,cO];omega) (by omega)
     cases j:iK ((b.drop s).take m) with
     | none =>
       have HN:Hid (ex b=U):=by unfold Hid;rw[D.o,j];rfl
       have HI2:Hid (Calls prog 247 #[Z (if cap=s then M ⟨u,y,U⟩ else M ⟨u,y+s,U⟩) m (cap-s)] f fun e w'=>e=Y (.tuple #[.agg #[I J 0,I J 0,I J 0,Z U 0 0],.bool F])∧Below f.heap.size f w'):=(HIn.o f (ar _ _)).mono fun e w' h=>by
        cases h with
        | no c h2=>exact⟨rfl,h2⟩
        | yes q g i c _ _=>rw[j] at c;cases c
       clear j HIn D;go_upto_region 6 with (first
        | (go_at_call 246;refine HR.o.mono ?_;rintro e d ⟨rfl,l⟩;rw[l];clear l)
        | (go_at_call 247;refine HI2.o.mono ?_;rintro e d ⟨rfl,z⟩;have t:=aa z;clear z))
       generalize (if cap=s then M (⟨u,y,U⟩:Addr) else M ⟨u,y+s,U⟩)=aj at *;have B:Below (w.heap.size+1) f (d.alloc (K #[I J 0,I J 0,I J 0,Z U 0 0] 264)):=by
        rw[<-HZ.o];exact t.o.alloc t.o.size _
       generalize d.alloc (K #[I J 0,I J 0,I J 0,Z U 0 0] 264)=w4 at *;obtain⟨a,C,_⟩:=H.o w4 B;have HR4:=aa a;have Ij:=aa C
       obtain⟨⟨a0,a1,a2,a3⟩,g0,g1,g2,g3⟩:=dU a;clear a C B;go_wp2;obtain⟨oD,AQ⟩:=lT HR4.o (I J 0) (I J 0) (I J 0) (Z U 0 0);generalize ((((w4.setCell ⟨w.heap.size,0,U⟩ (Value.int J 0)).setCell ⟨w.heap.size,1,U⟩ (Value.int J 0)).setCell ⟨w.heap.size,2,U⟩ (Value.int J 0)).setCell ⟨w.heap.size,3,U⟩ (Value.slice U 0 0))=w5 at oD AQ ⊢;obtain⟨⟨N,T,r2,r3⟩,_⟩:=dU oD;refine aR (v:=.tuple #[.agg #[I J 0,I J 0,I J 0,Z U 0 0],I J 0]) (by simp[results,results185,go_sem,N,T,r2,r3]) rfl (.no HN.o (Ij.o.trans (AQ.below (fun k e=>by omega) Ij.o.size)))
     | some q =>
       have HN:Hid (ex b=M (q,s+m)):=by unfold Hid;rw[D.o,j];rfl
       have HI2:Hid (Calls prog 247 #[Z (if cap=s then M ⟨u,y,U⟩ else M ⟨u,y+s,U⟩) m (cap-s)] f fun e w'=>∃g i,e=Y (.tuple #[.agg #[I J q.b,I J q.a,I J q.n,Z g q.c.length i],.bool true])∧dL w' (fun k=>f.heap.size<=k) g i q.c∧Below f.heap.size f w'):=(HIn.o f (ar _ _)).mono fun e w' h=>by
        cases h with
        | no c h2=>rw[j] at c;cases c
        | yes q' g i c h2 h3 =>
          rw[j] at c;injection c with c;subst c;exact⟨g,i,rfl,h2,h3⟩
       clear j HIn D;generalize hqn:q.c.length=qn at *;go_upto_region 6 with (first
        | (go_at_call 246;refine HR.o.mono ?_;rintro e d ⟨rfl,l⟩;rw[l];clear l)
        | (go_at_call 247;refine HI2.o.mono ?_;rintro e d ⟨g,i,rfl,VR,z⟩;have t:=aa z;have HI3:=aa VR;clear z VR))
       generalize (if cap=s then M (⟨u,y,U⟩:Addr) else M ⟨u,y+s,U⟩)=aj at *;have jf:Below d.heap.size d (d.alloc (K #[I J q.b,I J q.a,I J q.n,Z g qn i] 264)):=(ar _ d).alloc (ak _) _;have B:Below (w.heap.size+1) f (d.alloc (K #[I J q.b,I J q.a,I J q.n,Z g qn i] 264)):=by
        rw[<-HZ.o];exact t.o.alloc t.o.size _
       have hq4:=aX d (K #[I J q.b,I J q.a,I J q.n,Z g qn i] 264);have HI4:Hid (dL (d.alloc (K #[I J q.b,I J q.a,I J q.n,Z g qn i] 264)) (fun k=>f.heap.size<=k) g i q.c):=HI3.o.f (am.f (S:=fun _=>False) jf) (fun _ _ e=>e);have hz3:w.heap.size+1<=d.heap.size:=by have:=t.o.size;have:=HZ.o;omega
       generalize d.alloc (K #[I J q.b,I J q.a,I J q.n,Z g qn i] 264)=w4 at *;generalize d.heap.size=gq at *;obtain⟨a,C,_⟩:=H.o w4 B;have HR4:=aa a;have Ij:=aa C
       obtain⟨⟨a0,a1,a2,a3⟩,g0,g1,g2,g3⟩:=dU a;obtain⟨⟨k0,k1,k2,k3⟩,_⟩:=dU hq4;have hne:¬gq=w.heap.size:=by omega
       have hne2:¬w.heap.size=gq:=by omega
       clear a C B hq4 jf;go_wp2;obtain⟨oD,AQ⟩:=lT HR4.o (I J q.b) (I J q.a) (I J q.n) (Z g qn i);generalize ((((w4.setCell ⟨w.heap.size,0,U⟩ (Value.int J q.b)).setCell ⟨w.heap.size,1,U⟩ (Value.int J q.a)).setCell ⟨w.heap.size,2,U⟩ (Value.int J q.n)).setCell ⟨w.heap.size,3,U⟩ (Value.slice g qn i))=w5 at oD AQ ⊢;obtain⟨⟨N,T,r2,r3⟩,_⟩:=dU oD;have hy:=AC.yes (w:=w) (b:=b) (w':=w5) q (s+m) g i HN.o ((HI4.o.f AQ (fun k e e2=>by have:=HZ.o;omega)).a (fun k _ e=>by have:=HZ.o;omega)) (Ij.o.trans (AQ.below (fun k e=>by omega) Ij.o.size));rw[hqn] at hy;refine aR (v:=.tuple #[.agg #[I J q.b,I J q.a,I J q.n,Z g qn i],I J ((s+m:Nat):Int)]) (by simp[results,results185,go_sem,N,T,r2,r3]) rfl hy
   . have D:=aa (N6 L (by rw[hn];exact hx));clear L;by_cases hx0:x<0
     . clear hx;go_wp2_with (go_at_call 246;refine HR.o.mono ?_;rintro e d ⟨rfl,l⟩;rw[l];clear l)
       obtain⟨a,EN⟩:=lT HR1.o (I J 0) (I J 0) (I J 0) (Z U 0 0);generalize ((((f.setCell ⟨w.heap.size,0,U⟩ (Value.int J 0)).setCell ⟨w.heap.size,1,U⟩ (Value.int J 0)).setCell ⟨w.heap.size,2,U⟩ (Value.int J 0)).setCell ⟨w.heap.size,3,U⟩ (Value.slice U 0 0))=w4 at a EN ⊢;obtain⟨⟨N,T,r2,r3⟩,_⟩:=dU a;refine aR (v:=.tuple #[.agg #[I J 0,I J 0,I J 0,Z U 0 0],I J 0]) (by simp[results,results185,go_sem,N,T,r2,r3]) rfl (.no D.o (r.o.trans (EN.below (fun k e=>by omega) r.o.size)))
     . have t2:(n:Int)-s<x:=by omega
       clear hx;go_wp2_with (go_at_call 246;refine HR.o.mono ?_;rintro e d ⟨rfl,l⟩;rw[l];clear l)
       obtain⟨a,EN⟩:=lT HR1.o (I J 0) (I J 0) (I J 0) (Z U 0 0);generalize ((((f.setCell ⟨w.heap.size,0,U⟩ (Value.int J 0)).setCell ⟨w.heap.size,1,U⟩ (Value.int J 0)).setCell ⟨w.heap.size,2,U⟩ (Value.int J 0)).setCell ⟨w.heap.size,3,U⟩ (Value.slice U 0 0))=w4 at a EN ⊢;obtain⟨⟨N,T,r2,r3⟩,_⟩:=dU a;refine aR (v:=.tuple #[.agg #[I J 0,I J 0,I J 0,Z U 0 0],I J 0]) (by simp[results,results185,go_sem,N,T,r2,r3]) rfl (.no D.o (r.o.trans (EN.below (fun k e=>by omega) r.o.size)))
theorem S7:(prog.info? 264).map (fun i=>(i.zero,i.size,i.bytes))=M (M (.agg #[I J 0,I J 0,I J 0,Z U 0 0]),4,48):=by kernel_rfl
structure ut (w:X)(tE:Nat)(b:ab)(at_:Nat)(ao:ag)(ca:Nat)(l:List aH)(W:X):Prop where
 c:lj W (fun k=>w.heap.size<=k) tE ao ca l
 e:at_<=b.length
 d:l.length<=at_
 a:ch b=(l++(ch (b.drop at_)).1,at_+(ch (b.drop at_)).2)
 below:Below w.heap.size w W
theorem ut.j (w:X)(a:Nat)(b:ab):ut w a b 0 U 0 [] w:=⟨lj.y _ _ _,ax _,ak _,by simp,ar _ _⟩
theorem ut.r {w:X}{a:Nat}{b:ab}{at_:Nat}{ao:ag}{c:Nat}{l:List aH}{W:X}(h:ut w a b at_ ao c l W)(d:ex (b.drop at_)=U):ch b=(l,at_):=by
 rw[h.a,ur d];simp
theorem ut.f {w:X}{a:Nat}{b:ab}{at_:Nat}{ao:ag}{f:Nat}{l:List aH}{W W':X}(h:ut w a b at_ ao f l W){e:aH}{s:Nat}(d:ex (b.drop at_)=M (e,s)){gL:ag}{zN:Nat}(g:lj W' (fun k=>w.heap.size<=k) a gL zN (l++[e]))(i:Below w.heap.size w W'):ut w a b (at_+s) gL zN (l++[e]) W':=by
 have c:=xd d;rw[cO] at c;have j:=h.e;have m:=h.d;refine⟨g,by omega,by rw[aD];simp;omega,?_,i⟩;rw[h.a,Ao d,List.drop_drop];simp only[iY,gd,kX,gE]
def Gp (w:X)(tE:Nat)(b:ab)(e:Ending)(w':X):Prop:=∃ao ca,e=Y (.tuple #[Z ao (ch b).1.length ca,I J ((ch b).2:Int)])∧lj w' (fun k=>w.heap.size<=k) tE ao ca (ch b).1∧Below w.heap.size w w'
theorem MH (b:ab)(ao:ag)(cap n:Nat)(w:X)(hB:aB w ao cap b)(hn:b.length=n)(hN:n<=1000000000):
 Calls prog 127 #[Z ao n cap] w fun e w'=>Gp w 264 b e w':=by
 have HI:Hid (∀W,Below w.heap.size w W->aB W ao cap b):=fun W hW=>hB.a hW;have hcap:=hB.1;obtain⟨j0,H,L,N,T⟩:=info_parts S7;have Hj:=aa H;have O9:=aa L;have Pb:=aa N;have Pf:=aa T
 clear hB H L N T;go_enter func127,ntmps127;go_wp2;go_loopw [4,5] (fun vl va wr=>∃(k:Nat) (ai:ag) (ci:Nat) (l:List aH) (m:Nat),l.length=m∧vl=Z ai m ci∧va=I J k∧ut w 264 b k ai ci l wr) (fun _ va _=>n-(intOf va).toNat)
 case atStart=>exact⟨0,U,0,[],0,rfl,rfl,rfl,ut.j w _ b⟩
 case round =>
  obtain⟨k,ai,ci,l,m,hm,rfl,rfl,hD⟩:=hrel;have x:=aa hD;have hk:=hD.e;have mH:=hD.d;clear hD;have hk1:(k:Int)<=n:=by omega
  have hk2:(k:Int)<=cap:=by omega
  have TM:Hid (∀u,(cap≠k->u=ao.map (·.add k))->aB wr u (cap-k) (b.drop k)):=fun u B=>by
   have g:=(HI.o wr x.o.below).G (gL:=u) k b.length (by omega) (ak _) B;rwa[gF (by rw[cO];omega)] at g
  cases y:ex (b.drop k) with
  | none =>
    have HX:=aa (x.o.r y);have i:Hid (∀u,(cap≠k->u=ao.map (·.add k))->Calls prog 185 #[Z u (n-k) (cap-k)] wr fun e w'=>e=Y (.tuple #[.agg #[I J 0,I J 0,I J 0,Z U 0 0],I J 0])∧Below wr.heap.size wr w'):=fun u B=>(Ib (b.drop k) u (cap-k) (n-k) wr (TM.o u B) (by rw[cO,hn]) (by omega)).mono fun e w' h=>by
     cases h with
     | no g h2=>exact⟨rfl,h2⟩
     | yes q s c d g _ _=>rw[y] at g;cases g
    clear y TM;have z:Hid (∀f,Below wr.heap.size wr f->Gp w 264 b (Y (.tuple #[Z ai m ci,I J (k:Int)])) (f.alloc (K #[I J 0,I J 0,I J 0,Z U 0 0] 264))):=fun f a=>by
     have hb4:=a.alloc a.size (K #[I J 0,I J 0,I J 0,Z U 0 0] 264);exact⟨ai,ci,by rw[HX.o,hm],by rw[HX.o];exact x.o.c.f hb4,au x.o.below hb4⟩
    by_cases C:cap=k
    . have D:=i.o ao (fun e=>absurd C e);have hnk:n-k=0:=by omega
      have agC:cap-k=0:=by omega
      rw[hnk,agC] at D;have G:=aa D;clear D i;obtain rfl:n=k:=by omega
      subst C;clear hnk agC;go_wp2_with (go_at_call 185;refine G.o.mono ?_;rintro e f ⟨rfl,a⟩;have r:=aa a;clear a)
      go_ret2;exact z.o f r.o
    . have G:=aa (i.o _ (fun _=>rfl));clear i;go_wp2_with (go_at_call 185;refine G.o.mono ?_;rintro e f ⟨rfl,a⟩;have r:=aa a;clear a)
      go_ret2;exact z.o f r.o
  | some p =>
    obtain⟨q,s⟩:=p;have hle:=xd y;rw[cO] at hle;have C:¬cap=k:=by omega
    have HM:=aa (fun W' gL zN hE hb=>x.o.f (W':=W') (gL:=gL) (zN:=zN) y hE hb);have i:Hid (Calls prog 185 #[Z (ao.map (·.add k)) (n-k) (cap-k)] wr fun e w'=>∃c d,e=Y (.tuple #[.agg #[I J q.b,I J q.a,I J q.n,Z c q.c.length d],I J (s:Int)])∧dL w' (fun k=>wr.heap.size<=k) c d q.c∧Below wr.heap.size wr w'):=(Ib (b.drop k) _ (cap-k) (n-k) wr (TM.o _ (fun _=>rfl)) (by rw[cO,hn]) (by omega)).mono fun e w' h=>by
     cases h with
     | no g h2=>rw[y] at g;cases g
     | yes q' s' c d g h2 h3 =>
       rw[y] at g;injection g with g;injection g with h4 h5;subst h4;subst h5;exact⟨c,d,rfl,h2,h3⟩
    clear y TM;have ts:((s:Int)==0)=F:=by rw[aQ];omega
    have HQn:Hid (∃v,q.c.length=v):=⟨_,rfl⟩;generalize hqn:q.c.length=v at *;go_upto_region 6 with (go_at_call 185;refine i.o.mono ?_;rintro e f ⟨c,d,rfl,VR,a⟩;have r:=aa a;have HI3:=aa VR;clear a VR)
    have jf:Below f.heap.size f (f.alloc (K #[I J q.b,I J q.a,I J q.n,Z c v d] 264)):=(ar _ f).alloc (ak _) _;have hq4:=aX f (K #[I J q.b,I J q.a,I J q.n,Z c v d] 264);have HI4:Hid (dL (f.alloc (K #[I J q.b,I J q.a,I J q.n,Z c v d] 264)) (fun k=>wr.heap.size<=k) c d q.c):=HI3.o.f (am.f (S:=fun _=>False) jf) (fun _ _ e=>e);have jL:Hid (Below wr.heap.size wr (f.alloc (K #[I J q.b,I J q.a,I J q.n,Z c v d] 264))):=au r.o jf;clear jf;generalize f.alloc (K #[I J q.b,I J q.a,I J q.n,Z c v d] 264)=w4 at *;generalize f.heap.size=gq at *;obtain⟨⟨k0,k1,k2,k3⟩,_⟩:=dU hq4;obtain⟨xs,hO,hP⟩:=((x.o.c.a (S':=fun k=>w.heap.size<=k∧k<wr.heap.size) (fun j hj e=>⟨e,hj⟩)).f jL.o).B (K #[I J q.b,I J q.a,I J q.n,Z c v d] 264);have Yi:Hid (bq (w4.alloc (K #[I J q.b,I J q.a,I J q.n,Z c v d] 264)) (M ⟨w4.heap.size,0,U⟩) 1 1 (lG q ⟨c,d⟩)):=by
     have:=bq.j w4 #[I J q.b,I J q.a,I J q.n,Z c v d] 1 264 (0,0);rw[<-hqn] at this ⊢;exact this
    rw[hm] at hO hP;have HO:=aa hO;have HP:=aa hP
    have HN:Hid (m+1<=9223372036854775807∧(m+1)*48<=140737488355328):=⟨by omega,by omega⟩;have hz:=x.o.below.size;have hwk:IntKind.i64.wrap ((k:Int)+s)=(k:Int)+s:=ja (by omega) (by omega);clear hq4 hO hP;go_wp2_with (at_builtin;refine lO rfl (.tmp 19) (.tmp 21) 212 rfl 0 264 j0 (.agg #[I J 0,I J 0,I J 0,Z U 0 0]) 4 48 underlying212 Hj.o O9.o Pb.o Pf.o rfl (by decide) rfl HO.o rfl Yi.o rfl (SQ _ _) HN.o.1 HN.o.2 (ax _) ?_;intro zU t w5 xW NM sN;obtain⟨hU5,wN⟩:=HP.o zU t w5 q ⟨c,d⟩ (fun j=>wr.heap.size<=j) HI4.o (fun j e h=>by omega) xW NM sN;have HU5:=aa hU5;have UZ:=aa wN;clear xW NM sN hU5 wN)
    go_roundw
    case rel =>
     have hz4:=jL.o.size;refine⟨k+s,zU,t,l++[q],m+1,by rw[aD,hm];rfl,rfl,by go_num,HM.o w5 zU t (HU5.o.a (fun j _ e=>?_)) ((au x.o.below jL.o).trans (UZ.o.below (fun j e=>e.1) (by omega)))⟩;rcases e with e | e | e
     . exact e.1
     . omega
     . omega
    case measure=>simp[intOf];omega
