import Derived.Test.YtodmelffkfbalaaGreatDoorRqA
import Derived.Test.YtodmelffkfbalaaGreatDoorPk41
open Go.Value renaming int->I,string->V,slice->Z,pointer->Q
open Go.IntKind renaming i64->J
open Go.Obj renaming cells->K
open Go.Ending renaming returned->Y
open Option renaming none->U,some->M
open Bool renaming false->F
open Or renaming inl->A,inr->R
open Go renaming World->X
set_option maxHeartbeats 2000000
set_option maxRecDepth 100000
open Go.Proofs.Tryz
namespace Go.Proofs.YtodmelffkfbalaaGreatDoor
open Go.RowKit
theorem Oj (w:X)(S:Nat->Prop)(g:Nat)(s:dz)(c:UInt8)(h:ju w S g s)(i:jT s)(a:s.a=0)(b:s.b=1):
 Calls prog 413 #[Q (M ⟨g,0,U⟩),I .u8 c.toNat] w fun e w'=>e=Y (.tuple #[Z (M ⟨w.heap.size,0,U⟩) 1 1,.bool F,I J 0])∧ju w' S g (de s c)∧bl w' 0 5 (M ⟨w.heap.size,0,U⟩) 1 [c]∧am S w w':=by
 have j:=kz.2 ⟨a,by omega⟩;obtain⟨y,nx,lf,z,B,C,r,l⟩:=h;obtain⟨rfl,rfl,rfl,rfl,rfl⟩:=l j;rw[j] at r;have k:=i.a b;have q:=i.b;have d:jU s=s.c:=by unfold jU;rw[if_pos b]
 rw[d] at r;have f:hQ s=1:=by unfold hQ;rw[if_neg (by omega),if_neg (by omega)]
 rw[f] at r;have D:=r.a 5 (by decide);have G:=r.a 2 (by decide);have H:=r.j 2;have L:decide ((s.c:Int) > 0)=true:=br (by omega);have t:=r.H ((s.c:Int)-1);have u:=r.f 2 (I J ((s.c:Int)-1));have m:de s c={ s with c:=s.c-1,b:=if s.c<=1 then 2 else 1 }:=by unfold de;rw[if_neg (fun e=>e a),if_neg (by omega),if_pos b]
 have N:Hid (iG s c=[c]):=by unfold Hid iG;rw[if_pos ⟨a,b⟩]
 have T:Hid (jb s c=F):=by
  unfold Hid jb;rw[cC,m];intro e;have:(if s.c<=1 then 2 else 1)=4:=e.2.2.2;split at this <;> omega
 have v:=a;have x:=aa k
 clear r l  i j d f a b k;go_enter func413,ntmps413;go_wp2;go_ret3
 have n:Below (w.setCell ⟨g,2,U⟩ (I J ((s.c:Int)-1))).heap.size (w.setCell ⟨g,2,U⟩ (I J ((s.c:Int)-1))) ((w.setCell ⟨g,2,U⟩ (I J ((s.c:Int)-1))).alloc (K #[I .u8 (c.toNat:Int)] 5)):=(ar _ _).alloc (ak _) _;have a:=v;have k:=x.o;have p:(w.setCell ⟨g,2,U⟩ (I J ((s.c:Int)-1))).heap.size=w.heap.size:=by simp
 refine⟨by rw[<-p];rfl,ju.f m (t.r n) ?_ (fun _=>⟨rfl,?_,?_,rfl,rfl⟩),?_,u.a (am.f n) (fun _ e _=>e)⟩
 . rw[kz (s:={ s with c:=s.c-1,b:=if s.c<=1 then 2 else 1 }) |>.2 ⟨a,by show(if s.c<=1 then 2 else 1)≠4;split <;> omega⟩]
 . unfold hQ;simp only;split <;> rfl
 . unfold jU;simp only;split
   . rw[if_neg (by omega)];omega
   . rw[if_pos rfl];omega
 . rw[<-p];exact vu _ _ 1 (ax _) (by decide) rfl
theorem R4 (w:X)(g:Nat)(o t bd:Value)(u:Bool)(a b c d f:Value)(p:ct w g o t u bd 0):
 (((((((((w.alloc (K #[V ⟨#[]⟩,V ⟨#[]⟩,I J 0,Z U 0 0,I J 0] 82)).alloc (K #[a,b,c,d,f] 82)).setCell ⟨g,1,U⟩ (Q U)).setCell ⟨g,2,U⟩ (.bool F)).setCell ⟨w.heap.size,0,U⟩ a).setCell ⟨w.heap.size,1,U⟩ b).setCell ⟨w.heap.size,2,U⟩ c).setCell ⟨w.heap.size,3,U⟩ d).setCell ⟨w.heap.size,4,U⟩ f).heap[w.heap.size]? = M (K #[a,b,c,d,f] 82 (0,0))∧ct (((((((((w.alloc (K #[V ⟨#[]⟩,V ⟨#[]⟩,I J 0,Z U 0 0,I J 0] 82)).alloc (K #[a,b,c,d,f] 82)).setCell ⟨g,1,U⟩ (Q U)).setCell ⟨g,2,U⟩ (.bool F)).setCell ⟨w.heap.size,0,U⟩ a).setCell ⟨w.heap.size,1,U⟩ b).setCell ⟨w.heap.size,2,U⟩ c).setCell ⟨w.heap.size,3,U⟩ d).setCell ⟨w.heap.size,4,U⟩ f) g o (Q U) F bd 0∧am (fun k=>k=g) w (((((((((w.alloc (K #[V ⟨#[]⟩,V ⟨#[]⟩,I J 0,Z U 0 0,I J 0] 82)).alloc (K #[a,b,c,d,f] 82)).setCell ⟨g,1,U⟩ (Q U)).setCell ⟨g,2,U⟩ (.bool F)).setCell ⟨w.heap.size,0,U⟩ a).setCell ⟨w.heap.size,1,U⟩ b).setCell ⟨w.heap.size,2,U⟩ c).setCell ⟨w.heap.size,3,U⟩ d).setCell ⟨w.heap.size,4,U⟩ f):=by
 have x:=p.B;have q:Below w.heap.size w ((w.alloc (K #[V ⟨#[]⟩,V ⟨#[]⟩,I J 0,Z U 0 0,I J 0] 82)).alloc (K #[a,b,c,d,f] 82)):=((ar _ _).alloc (ak _) _).alloc (by simp) _;have l:((w.alloc (K #[V ⟨#[]⟩,V ⟨#[]⟩,I J 0,Z U 0 0,I J 0] 82)).alloc (K #[a,b,c,d,f] 82)).heap[w.heap.size]? = M (K #[V ⟨#[]⟩,V ⟨#[]⟩,I J 0,Z U 0 0,I J 0] 82 (0,0)):=by
  rw[(re _ _ U).block _ (by simp) (by simp),aX]
 have m:=((p.a q).jY (Q U)).kU F;have n:=(pP (((w.alloc (K #[V ⟨#[]⟩,V ⟨#[]⟩,I J 0,Z U 0 0,I J 0] 82)).alloc (K #[a,b,c,d,f] 82)).setCell ⟨g,1,U⟩ (Q U)) ⟨g,2,U⟩ w.heap.size (.bool F) (by show w.heap.size≠g;omega)).trans ((pP ((w.alloc (K #[V ⟨#[]⟩,V ⟨#[]⟩,I J 0,Z U 0 0,I J 0] 82)).alloc (K #[a,b,c,d,f] 82)) ⟨g,1,U⟩ w.heap.size (Q U) (by show w.heap.size≠g;omega)).trans l);have y:=aP _ _ 0 _ _ a n;have z:=aP _ _ 1 _ _ b y;have B:=aP _ _ 2 _ _ c z;have C:=aP _ _ 3 _ _ d B;have D:=aP _ _ 4 _ _ f C;have i:∀(W:X) (j:Nat) (v:Value),am (fun k=>k=w.heap.size) W (W.setCell ⟨w.heap.size,j,U⟩ v):=fun W j v=>am.r _ W _ _ rfl;have r:=(i ((((w.alloc (K #[V ⟨#[]⟩,V ⟨#[]⟩,I J 0,Z U 0 0,I J 0] 82)).alloc (K #[a,b,c,d,f] 82)).setCell ⟨g,1,U⟩ (Q U)).setCell ⟨g,2,U⟩ (.bool F)) 0 a).a ((i _ 1 b).a ((i _ 2 c).a ((i _ 3 d).a (i _ 4 f) (fun _ e _=>e)) (fun _ e _=>e)) (fun _ e _=>e)) (fun _ e _=>e);refine⟨D,m.f r (by omega),?_⟩;have s:∀(W:X) (j:Nat) (v:Value),am (fun k=>k=g) W (W.setCell ⟨g,j,U⟩ v):=fun W j v=>am.r _ W _ _ rfl;refine(am.f (S:=fun k=>k=g) q).a (((s _ 1 _).a (s _ 2 _) (fun _ e _=>e)).j (S':=fun k=>k=g∨k=w.heap.size) (fun k e=>A e) |>.a (r.j (fun k e=>R e)) (fun _ e _=>e)) (fun k e G=>?_);rcases e with e | e
 . exact e
 . omega
theorem R6 (w:X)(g f:Nat)(s bd:Value)(S:Nat->Prop)(h:dg)(i:ct w g s (Q (M ⟨f,0,U⟩)) true bd 0)(D:fV w S f h)(y:¬S g):
 Calls prog 168 #[Q (M ⟨g,0,U⟩)] w fun e w'=>∃fo gy,e=Y (.agg #[V ⟨h.e.toArray⟩,V ⟨h.b.toArray⟩,I J (h.d:Int),Z fo h.a.length gy,I J h.c])∧ct w' g s (Q U) F bd 0∧js w' S fo gy h.a.length (aI (co h.a))∧am (fun k=>k=g) w w':=by
 obtain⟨fo,gy,t,z,G,B⟩:=D;have C:js w S fo gy h.a.length (aI (co h.a)):=⟨z.a,fun _ a e=>B a e⟩;have H:=C;have L:=aa y
 have c:Below w.heap.size w (w.alloc (K #[V ⟨#[]⟩,V ⟨#[]⟩,I J 0,Z U 0 0,I J 0] 82)):=(ar _ _).alloc (ak _) _;have b:=(c.block f (bO.1 t).1).trans t;have c1:=(i.a c).r;have r0:=aq _ f 0 _ _ _ b;have r1:=aq _ f 1 _ _ _ b;have r2:=aq _ f 2 _ _ _ b;have r3:=aq _ f 3 _ _ _ b;have r4:=aq _ f 4 _ _ _ b;have u:=i.B;have n1:g≠w.heap.size:=by omega
 have n2:g≠w.heap.size+1:=by omega
 clear b t z G B C y u;generalize (⟨h.e.toArray⟩:ae)=l at *;generalize (⟨h.b.toArray⟩:ae)=m at *;generalize h.a.length=n at *;generalize h.c=p at *;have d:Below w.heap.size w ((w.alloc (K #[V ⟨#[]⟩,V ⟨#[]⟩,I J 0,Z U 0 0,I J 0] 82)).alloc (K #[V l,V m,I J (h.d:Int),Z fo n gy,I J p] 82)):=c.trans ((ar _ _).alloc c.size _);have p1:=(i.a d).r;have p2:=(i.a d).G;have N:=(i.a d).j 1;have T:=(i.a d).j 2;go_enter func168,ntmps168;go_wp2;obtain⟨j,x,r⟩:=R4 w g s _ bd _ (V l) (V m) (I J (h.d:Int)) (Z fo n gy) (I J p) i;revert j x r;generalize (((((((((w.alloc (K #[V ⟨#[]⟩,V ⟨#[]⟩,I J 0,Z U 0 0,I J 0] 82)).alloc (K #[V l,V m,I J (h.d:Int),Z fo n gy,I J p] 82)).setCell ⟨g,1,U⟩ (Q U)).setCell ⟨g,2,U⟩ (.bool F)).setCell ⟨w.heap.size,0,U⟩ (V l)).setCell ⟨w.heap.size,1,U⟩ (V m)).setCell ⟨w.heap.size,2,U⟩ (I J (h.d:Int))).setCell ⟨w.heap.size,3,U⟩ (Z fo n gy)).setCell ⟨w.heap.size,4,U⟩ (I J p))=q;intro j x r;have W:=aq q w.heap.size 0 _ _ _ j;have z1:=aq q w.heap.size 1 _ _ _ j;have z2:=aq q w.heap.size 2 _ _ _ j;have z3:=aq q w.heap.size 3 _ _ _ j;have z4:=aq q w.heap.size 4 _ _ _ j;refine aR (v:=.agg #[V l,V m,I J (h.d:Int),Z fo n gy,I J p]) (by simp[results,results168,go_sem,W,z1,z2,z3,z4]) rfl ⟨fo,gy,rfl,x,?_,r⟩;exact H.f r (fun k hk e=>L.o (e▸hk))
theorem ct.lI {w:X}{g:Nat}{b d bd:Value}{f:Bool}{code:Int}(h:ct w g b d f bd code)(c:Int):
 ct (((((w.setCell ⟨g,0,U⟩ (Q U)).setCell ⟨g,1,U⟩ (Q U)).setCell ⟨g,2,U⟩ (.bool F)).setCell ⟨g,3,U⟩ .nilIface).setCell ⟨g,4,U⟩ (I J c)) g (Q U) (Q U) F .nilIface c ∧
 am (fun k=>k=g) w (((((w.setCell ⟨g,0,U⟩ (Q U)).setCell ⟨g,1,U⟩ (Q U)).setCell ⟨g,2,U⟩ (.bool F)).setCell ⟨g,3,U⟩ .nilIface).setCell ⟨g,4,U⟩ (I J c)):=by
 have a:∀(W:X) (j:Nat) (v:Value),am (fun k=>k=g) W (W.setCell ⟨g,j,U⟩ v):=fun W j v=>am.r _ W _ _ rfl;exact⟨((((h.mI _).jY _).kU _).H _).nD _,(a _ 0 _).a ((a _ 1 _).a ((a _ 2 _).a ((a _ 3 _).a (a _ 4 _) (fun _ e _=>e)) (fun _ e _=>e)) (fun _ e _=>e)) (fun _ e _=>e)⟩
inductive S3 (w:X)(g:Nat)(So:Nat->Prop)(es:List aU)(c:Nat)(e:Ending)(w':X):Prop
 | mk (ao:ag) (cap n:Nat) (he:e=Y (Z ao n cap)) (hn:n=(aE (es++[.fail c])).length) (hO:iD w' (ay So w) ao cap (aE (es++[.fail c]))) (hP:ct w' g (Q U) (Q U) F .nilIface (c:Int)) (hT:am (fun k=>So k∨k=g) w w')
theorem zu (w:X)(g:Nat)(p q bd:Value)(r:Bool)(code:Int)(So:Nat->Prop)(ao:ag)(cap n c:Nat)(es:List aU)(a:ct w g p q r bd code)(h:iD w So ao cap es)(j:¬So g)(s:es.length=n)(t:n<=100000)(u:ey es)(v:et es)(x:bQ es<=100000):
 Calls prog 167 #[Q (M ⟨g,0,U⟩),Z ao n cap,I J (c:Int)] w fun e w'=>S3 w g So es c e w':=by
 obtain⟨y,l⟩:=a.lI (c:Int);have i:=aa y;have z:=aa l
 have B:=aa j;have S:=a.jK;have T:=a.r;have W:=a.G;have c3:=a.y;have c4:=a.lH
 have f0:=a.j 0;have f1:=a.j 1;have f2:=a.j 2;have f3:=a.j 3;have f4:=a.j 4
 go_enter func167,ntmps167;go_wp2_with fail;refine(R1 _ So ao cap n c es (h.a l (fun k C e=>j (e▸C))) s t u v x).mono ?_;rintro e w1 ⟨D,G,H,rfl,b,m,d⟩;have L:=aa b;have N:=aa m;have f:=aa d
 clear b m d;go_wp2;go_ret;refine .mk D G H rfl L.o (N.o.f (fun k _ e=>?_)) (i.o.f f.o B.o) ?_
 . rcases e with e | e | e
   . exact A e
   . exact e.elim
   . exact R (by simpa using e)
 . exact(z.o.j (fun k e=>R e)).a (f.o.j (fun k e=>A e)) (fun _ e _=>e)
theorem Mk {w:X}{a left:Nat}{v:Value}{c:UInt8}(d:a<w.heap.size)(f:(w.setCell ⟨a,0,U⟩ v).heap[a]? = M (K #[I J (left:Int)] 289 (0,0))):
 ((w.setCell ⟨a,0,U⟩ v).alloc (K #[I .u8 (c.toNat:Int)] 5)).drew.heap[a]? = M (K #[I J (left:Int)] 289 (0,0))∧bl ((w.setCell ⟨a,0,U⟩ v).alloc (K #[I .u8 (c.toNat:Int)] 5)).drew 0 5 (M ⟨w.heap.size,0,U⟩) 1 [c]∧am (fun k=>k=a) w ((w.setCell ⟨a,0,U⟩ v).alloc (K #[I .u8 (c.toNat:Int)] 5)).drew:=by
 have g:(w.setCell ⟨a,0,U⟩ v).heap.size=w.heap.size:=by simp
 have b:Below (w.setCell ⟨a,0,U⟩ v).heap.size (w.setCell ⟨a,0,U⟩ v) ((w.setCell ⟨a,0,U⟩ v).alloc (K #[I .u8 (c.toNat:Int)] 5)).drew:=((ar _ _).alloc (ak _) _).trans ⟨rfl,rfl,rfl,ak _,fun _ _=>rfl⟩;refine⟨(b.block a (by omega)).trans f,?_,(am.r (fun k=>k=a) w _ _ rfl).a (am.f b) (fun _ e _=>e)⟩;have i:bl ((w.setCell ⟨a,0,U⟩ v).alloc (K #[I .u8 (c.toNat:Int)] 5)) 0 5 (M ⟨w.heap.size,0,U⟩) 1 [c]:=by
  rw[<-g];exact vu _ _ 1 (ax _) (by decide) rfl
 exact i.G (bj _ _)
theorem Ml (w:X)(a left:Nat)(c:UInt8)(g:w.heap[a]? = M (K #[I J (left:Int)] 289 (0,0)))(j:0<left)(l:left<=4000):
 Calls prog 418 #[Q (M ⟨a,0,U⟩),I .u8 c.toNat] w fun e w'=>e=Y (.tuple #[Z (M ⟨w.heap.size,0,U⟩) 1 1,.bool (decide (left<=1)),I J 0])∧w'.heap[a]? = M (K #[I J ((left-1:Nat):Int)] 289 (0,0))∧bl w' 0 5 (M ⟨w.heap.size,0,U⟩) 1 [c]∧am (fun k=>k=a) w w':=by
 have b:=(bO.1 g).1;have m:=aq w a 0 _ _ _ g;have n:=aN w a 0 _ _ g;have o:((left:Int)-1==0)=decide (left<=1):=by rw[iM,cR,bR];omega
 have d:=aP w a 0 _ _ (I J ((left:Int)-1)) g;have f:(w.setCell ⟨a,0,U⟩ (I J ((left:Int)-1))).heap[a]? = M (K #[I J ((left-1:Nat):Int)] 289 (0,0)):=by
  rw[d];have:((left-1:Nat):Int)=(left:Int)-1:=by omega
  rw[this];rfl
 have i:=aq _ a 0 _ _ _ d;have q:((w.setCell ⟨a,0,U⟩ (I J ((left:Int)-1))).alloc (K #[I .u8 (c.toNat:Int)] 5)).cell? ⟨a,0,U⟩=M (I J ((left:Int)-1)):=by
  rw[((ar _ _).alloc (ak _) _).cell (p:=⟨a,0,U⟩) (by simpa using b)];exact i
 generalize decide (left<=1)=r at *;go_enter func418,ntmps418;go_wp2;go_region
 all_goals (go_wp2;go_ret3;exact⟨rfl,Mk b f⟩)
theorem Lu (w:X)(k:Nat)(a:0<k):
 Calls prog 170 #[I J (k:Int)] w fun e w'=>e=Y (.iface 287 (Q (M ⟨w.heap.size,0,U⟩)))∧w'.heap[w.heap.size]? = M (K #[I J (k:Int)] 289 (0,0))∧Below w.heap.size w w':=by
 have b:((k:Int)==-1)=F:=aQ.2 (by omega);go_enter func170,ntmps170;go_wp2;go_ret;exact⟨rfl,aX w _,(ar _ _).alloc (ak _) _⟩
theorem Lp (w:X):
 Calls prog 170 #[I J (-1)] w fun e w'=>∃g,e=Y (.iface 285 (Q (M ⟨g,0,U⟩)))∧ju w' (fun k=>w.heap.size<=k) g rH∧Below w.heap.size w w':=by
 go_enter func170,ntmps170;go_wp2_with fail;refine(KK w).mono ?_;rintro e f ⟨g,rfl,a,b⟩;have c:=aa a;have d:=aa b
 clear a b;go_wp2;go_ret;exact⟨g,rfl,c.o,d.o⟩
inductive oj (w:X)(S So:Nat->Prop)(g:Nat)(s:bN)(c:UInt8)(es:List aU)(e:Ending)(w':X):Prop
 | mk (ao:ag) (cap n:Nat) (S' So':Nat->Prop) (he:e=Y (Z ao n cap)) (hn:n=(aE (es++(cI s c).2)).length) (hR:dM w' S' g (cI s c).1) (hO:iD w' So' ao cap (aE (es++(cI s c).2)))
  (hd:∀k,S' k->¬So' k) (hS:∀k,S' k->S k∨w.heap.size<=k) (hSo:∀k,So' k->S k∨So k∨w.heap.size<=k) (hT:am (fun k=>S k∨So k) w w')
theorem Hb {es:List aU}{e:aU}{n m:Nat}(f:es.length=n)(g:m=(aE (es++[e])).length)(b:∀a,e=.body a->a≠[]∧a.length<=1)(d:et es):
 m<=n+1∧bQ (aE (es++[e]))<=bQ es+1∧et (aE (es++[e]))∧ey (aE (es++[e])):=by
 have c:=rY (es++[e]);rw[aD] at c;refine⟨by simp at c;omega,?_,sf _ (FU d (fun a ha=>?_)),qz _⟩
 . rw[se,qA];cases e with
   | body a=>have:=(b a rfl).2;simp only[bQ];omega
   | head _=>simp[bQ]
   | fin=>simp[bQ]
   | fail _=>simp[bQ]
 . simp at ha;exact(b a ha.symm).1
theorem BQ {w a b:X}{c B C:Nat->Prop}{d:Nat}{l:cx}(h:cP w C d l)(e:am c w a)(f:am B a b)(g:∀k,C k->¬c k)(i:∀k,C k->¬B k):cP b C d l:=(h.f e g).f f i
theorem Jb (w:X)(S So:Nat->Prop)(g:Nat)(s:bN)(c:UInt8)(ao:ag)(cap n:Nat)(es:List aU)(h:dM w S g s)(hG:fI s)(hp:s.a=2)(hO:iD w So ao cap es)(hd:∀k,S k->¬So k)(q:es.length=n)(W:n<=90000)(x:ey es)(r:et es)(T:bQ es<=90000):
 Calls prog 107 #[Q (M ⟨g,0,U⟩),Z ao n cap,I .u8 c.toNat] w fun e w'=>oj w S So g s c es e w':=by
 obtain⟨l,lp,hpp,bd,code,m,hI⟩:=h;cases hI with
 | dead c hc h4=>omega
 | Kn gl h0 L=>omega
 | NJ gl gh D h1 L H=>omega
 | at3 gl p D h3 L B=>omega
 | at2 gl p h2 L i B =>
   obtain⟨l0,l1⟩:=hG.g hp;have c3:=m.y;have hgb:p<w.heap.size:=(bO.1 B).1;have Af:=m.B;have HC:=aa (Ml w p s.e c B l0 l1);have hm:∀w,(method 527 287 (Q (M ⟨p,0,U⟩)) "Feed").run prog w=.ok (418,Q (M ⟨p,0,U⟩)) w:=fun _=>by kernel_rfl
   have HX:Hid (dM w S g s∧ct w g (Q (M ⟨gl,0,U⟩)) (Q U) F (.iface 287 (Q (M ⟨p,0,U⟩))) 0∧cP w (fun k=>((S k∧k≠g)∧k≠p)∧k<w.heap.size) gl s.b∧(S p∧p≠g)∧(∀k,S k->¬So k)∧S g) :=
    ⟨⟨l,_,_,_,_,m,.at2 gl p h2 L i B⟩,m,L.a (fun k hk e=>⟨e,hk⟩),i,hd,l⟩
   have V9:=aa (hO.f (S':=fun k=>So k∧k<w.heap.size) (fun k hk e=>⟨e,hk⟩));have HE:=aa (And.intro q (And.intro W (And.intro x (And.intro r T))));have HLl:=aa (And.intro l0 l1);have ace:s.a≠4:=by omega
   have HN:Hid (cI s c=if s.e<=1 then ({ s with a:=0,e:=0 },[.body [c],.fin]) else ({ s with e:=s.e-1 },[.body [c]])):=by
    unfold Hid cI;rw[if_neg ace,if_pos hp]
   clear hG x r T hO hd L i B m l q l0 l1 ace h2;by_cases t:s.e<=1
   . rw[br t] at HC;have HV:=aa t;clear t;go_enter func107,ntmps107;go_wp2_with (go_at_call 418;refine HC.o.mono ?_;rintro e w1 ⟨rfl,y,sU,z⟩;have HB1:=aa y;have Ap:=aa sU;have d:=aa z;clear y sU z)
     obtain⟨q,W,x,r,T⟩:=HE.o;obtain⟨_,m,hL,i,hd,l⟩:=HX.o;have f:bK w1 (fun k=>k=w.heap.size) 5 (M ⟨w.heap.size,0,U⟩) 1 [c]:=A ⟨by simp,Ap.o,fun a e=>by injection e with e;subst e;rfl⟩;have C:=V9.o.a d.o (fun k e b=>hd p i.1 (b▸e.1));refine(zt w1 (fun k=>So k∧k<w.heap.size) (fun k=>k=w.heap.size) ao _ cap n 1 1 [c] es C f (by simp) rfl (by omega) (fun k e b=>by omega) q (by omega) x r (by omega)).mono ?_;rintro e w2 ⟨jZ,G,n2,rfl,u,N,jG⟩;have hadd:=Hb q u (fun a e=>by injection e with e;subst e;exact⟨by simp,by simp⟩) r;have v:ct w2 g _ _ _ _ _:=(m.f d.o (fun e=>i.2 e.symm)).f jG (fun e=>hd g l e.1);have p3:=v.y;have pf3:=v.j 3;have uw:=aa v;have EP:=aa N;have j:=aa jG;have HAd:=aa hadd;have JB:=aa u
     clear q W x r T m hL i hd l f C u N jG hadd v c3;go_wp2_with fail;obtain⟨q,W,x,r,T⟩:=HE.o;obtain⟨_,m,hL,i,hd,l⟩:=HX.o;obtain⟨a1,a2,a3,a4⟩:=HAd.o;have hs1:=d.o.b;have hs2:=j.o.b;have Dj:=am.r (fun k=>k=g) w2 ⟨g,3,U⟩ .nilIface rfl;have hE3:=EP.o.a Dj (fun k e b=>by
      subst b;rcases e with e | e | e
      . exact hd k l e.1
      . omega
      . omega)
     refine(Ai _ _ jZ G n2 _ hE3 JB.o.symm (by omega) a4 a3 (by omega)).mono ?_;rintro e w4 ⟨sD,cap4,n4,rfl,M6,hO4,yX⟩;have HN4:=aa M6;have OL:=aa hO4;have XE:=aa yX
     clear q W x r T m hL i hd l Dj hE3 M6 hO4 yX a1 a2 a3 a4 hs1 hs2;go_wp2;go_ret;obtain⟨q,W,x,r,T⟩:=HE.o;obtain⟨_,m,hL,i,hd,l⟩:=HX.o;have hs1:=d.o.b;have hs2:=j.o.b;have hz3:(w2.setCell ⟨g,3,U⟩ .nilIface).heap.size=w2.heap.size:=by simp
     have hN:=HN.o;rw[if_pos HV.o] at hN;have hj2:aE (aE (es++[.body [c]])++[.fin])=aE (es++(cI s c).2):=by rw[hN];exact F8 es [.body [c]] [.fin]
     have Dj:=am.r (fun k=>k=g) w2 ⟨g,3,U⟩ .nilIface rfl;have hP4:=(uw.o.H .nilIface).f XE.o (fun e=>by
      rcases e with e | e | e
      . exact hd g l e.1
      . omega
      . omega)
     have hL4:=((BQ hL d.o j.o (fun k e=>e.1.2) (fun k e b=>hd k e.1.1.1 b.1)).f Dj (fun k e=>e.1.1.2)).f XE.o (fun k e b=>by
      rcases b with b | b | b
      . exact hd k e.1.1.1 b.1
      . have:=e.2;omega
      . have:=e.2;omega)
     refine .mk sD cap4 n4 (fun k=>S k∧k<w.heap.size) _ rfl (by rw[<-hj2];exact HN4.o) ?_ (by rw[<-hj2];exact OL.o) ?_ (fun k e=>A e.1) ?_ ?_
     . rw[hN];exact⟨⟨l,Af⟩,_,_,_,_,hP4,.Kn gl rfl (hL4.a (fun k _ e=>⟨⟨e.1.1.1,e.2⟩,e.1.1.2⟩))⟩
     . intro k e b;rcases b with (b | b | b) | b | b
       . exact hd k e.1 b.1
       . omega
       . omega
       . exact b
       . omega
     . intro k e;rcases e with (e | e | e) | e | e
       . exact R (A e.1)
       . exact R (R (by omega))
       . exact R (R (by omega))
       . exact e.elim
       . exact R (R (by omega))
     . refine(d.o.j (fun k e=>by rw[e];exact A i.1)).a ((j.o.j (S':=fun k=>(S k∨So k)∨w.heap.size<=k) (fun k e=>A (R e.1))).a ((Dj.j (fun k e=>by rw[e];exact A (A l))).a (XE.o.j (fun k e=>?_)) (fun _ e _=>e)) (fun _ e _=>e)) (fun k e hk=>?_)
       . rcases e with e | e | e
         . exact A (R e.1)
         . exact R (by omega)
         . exact R (by omega)
       . rcases e with e | e
         . exact e
         . omega
   . rw[ba t] at HC;have HV:=aa t;clear t;go_enter func107,ntmps107;go_wp2_with (go_at_call 418;refine HC.o.mono ?_;rintro e w1 ⟨rfl,y,sU,z⟩;have HB1:=aa y;have Ap:=aa sU;have d:=aa z;clear y sU z)
     obtain⟨q,W,x,r,T⟩:=HE.o;obtain⟨_,m,hL,i,hd,l⟩:=HX.o;have f:bK w1 (fun k=>k=w.heap.size) 5 (M ⟨w.heap.size,0,U⟩) 1 [c]:=A ⟨by simp,Ap.o,fun a e=>by injection e with e;subst e;rfl⟩;have C:=V9.o.a d.o (fun k e b=>hd p i.1 (b▸e.1));refine(zt w1 (fun k=>So k∧k<w.heap.size) (fun k=>k=w.heap.size) ao _ cap n 1 1 [c] es C f (by simp) rfl (by omega) (fun k e b=>by omega) q (by omega) x r (by omega)).mono ?_;rintro e w2 ⟨jZ,G,n2,rfl,u,N,jG⟩;have EP:=aa N;have j:=aa jG;have JB:=aa u
     clear q W x r T m hL i hd l f C u N jG c3;go_wp2;go_ret;obtain⟨q,W,x,r,T⟩:=HE.o;obtain⟨_,m,hL,i,hd,l⟩:=HX.o;have hs1:=d.o.b;have hN:=HN.o;rw[if_neg HV.o] at hN;have v:=(m.f d.o (fun e=>i.2 e.symm)).f j.o (fun e=>hd g l e.1);have hB2:=j.o.y HB1.o (fun e=>hd p i.1 e.1);have hL2:=BQ hL d.o j.o (fun k e=>e.1.2) (fun k e b=>hd k e.1.1.1 b.1);refine .mk jZ G n2 (fun k=>S k∧k<w.heap.size) _ rfl (by rw[hN];exact JB.o) ?_ (by rw[hN];exact EP.o) ?_ (fun k e=>A e.1) ?_ ?_
     . rw[hN];exact⟨⟨l,Af⟩,_,_,_,_,v,.at2 gl p hp (hL2.a (fun k _ e=>⟨⟨⟨e.1.1.1,e.2⟩,e.1.1.2⟩,e.1.2⟩)) ⟨⟨i.1,hgb⟩,i.2⟩ hB2⟩
     . intro k e b;rcases b with b | b | b
       . exact hd k e.1 b.1
       . omega
       . omega
     . intro k e;rcases e with e | e | e
       . exact R (A e.1)
       . exact R (R (by omega))
       . exact R (R (by omega))
     . exact(d.o.j (fun k e=>by rw[e];exact A i.1)).a (j.o.j (fun k e=>R e.1)) (fun _ e _=>e)
theorem Lq (w:X)(S So:Nat->Prop)(g:Nat)(s:bN)(c:UInt8)(ao:ag)(cap n:Nat)(es:List aU)(h:dM w S g s)(hG:fI s)(hp:s.a=3)(l:s.d.b=1)(hO:iD w So ao cap es)(hd:∀k,S k->¬So k)(q:es.length=n)(hl:n<=90000)(r:ey es)(t:et es)(x:bQ es<=90000):
 Calls prog 107 #[Q (M ⟨g,0,U⟩),Z ao n cap,I .u8 c.toNat] w fun e w'=>oj w S So g s c es e w':=by
 obtain⟨m,lp,hpp,bd,code,j,hI⟩:=h;cases hI with
 | dead c hc h4=>omega
 | Kn u h0 L=>omega
 | NJ u gh D h1 L H=>omega
 | at2 u v h2 L hb B=>omega
 | at3 u v D h3 L B =>
   obtain⟨kg,y,k4⟩:=hG.c hp;have c3:=j.y;have Af:=j.B;have HC:=aa (Oj w (fun k=>((S k∧k≠g)∧D k)∧k<w.heap.size) v s.d c (B.a (fun k z e=>⟨e,z⟩)) kg y l);have hm:∀w,(method 527 285 (Q (M ⟨v,0,U⟩)) "Feed").run prog w=.ok (413,Q (M ⟨v,0,U⟩)) w:=fun _=>by kernel_rfl
   have p:de s.d c={ s.d with c:=s.d.c-1,b:=if s.d.c<=1 then 2 else 1 }:=by unfold de;rw[if_neg (fun e=>e y),if_neg (by omega),if_pos l]
   have HN:Hid (cI s c=({ s with d:=de s.d c },[.body [c]])):=by
    unfold Hid cI;rw[if_neg (by omega),if_neg (by omega),if_pos hp,if_neg (by rw[p];exact fun e=>e y),if_neg (by rw[p];show ¬(if s.d.c<=1 then 2 else 1)=4;split <;> omega)];have ho:iG s.d c=[c]:=by unfold iG;rw[if_pos ⟨y,l⟩]
    rw[ho];unfold oJ;rw[if_neg (by simp)]
   have HX:Hid (ct w g (Q (M ⟨u,0,U⟩)) (Q U) F (.iface 285 (Q (M ⟨v,0,U⟩))) 0∧cP w (fun k=>((S k∧k≠g)∧¬D k)∧k<w.heap.size) u s.b∧(∀k,S k->¬So k)∧S g) :=
    ⟨j,L.a (fun k z e=>⟨e,z⟩),hd,m⟩
   have V9:=aa (hO.f (S':=fun k=>So k∧k<w.heap.size) (fun k z e=>⟨e,z⟩));have HE:=aa (And.intro q (And.intro hl (And.intro r (And.intro t x))));clear hG r t x hO hd L B j m q kg y k4 p h3;go_enter func107,ntmps107;go_wp2_with (go_at_call 413;refine HC.o.mono ?_;rintro e w1 ⟨rfl,C,sU,G⟩;have HB1:=aa C;have Ap:=aa sU;have d:=aa G;clear C sU G)
   obtain⟨q,hl,r,t,x⟩:=HE.o;obtain⟨j,hL,hd,m⟩:=HX.o;have f:bK w1 (fun k=>k=w.heap.size) 5 (M ⟨w.heap.size,0,U⟩) 1 [c]:=A ⟨by simp,Ap.o,fun a e=>by injection e with e;subst e;rfl⟩;have N:=V9.o.a d.o (fun k e b=>hd k b.1.1.1 e.1);refine(zt w1 (fun k=>So k∧k<w.heap.size) (fun k=>k=w.heap.size) ao _ cap n 1 1 [c] es N f (by simp) rfl (by omega) (fun k e b=>by omega) q (by omega) r t (by omega)).mono ?_;rintro e w2 ⟨jZ,T,n2,rfl,W,hO2,jG⟩;have EP:=aa hO2;have i:=aa jG;have JB:=aa W
   clear q hl r t x j hL hd m f N W hO2 jG c3;go_wp2;go_ret;obtain⟨q,hl,r,t,x⟩:=HE.o;obtain⟨j,hL,hd,m⟩:=HX.o;have hs1:=d.o.b;have hN:=HN.o;have hP2:=(j.f d.o (fun e=>e.1.1.2 rfl)).f i.o (fun e=>hd g m e.1);have hL2:=BQ hL d.o i.o (fun k e b=>e.1.2 b.1.2) (fun k e b=>hd k e.1.1.1 b.1);have hB2:=(HB1.o.j i.o (fun k e b=>hd k e.1.1.1 b.1));refine .mk jZ T n2 (fun k=>S k∧k<w.heap.size) _ rfl (by rw[hN];exact JB.o) ?_ (by rw[hN];exact EP.o) ?_ (fun k e=>A e.1) ?_ ?_
   . rw[hN];exact⟨⟨m,Af⟩,_,_,_,_,hP2,.at3 u v D hp (hL2.a (fun k _ e=>⟨⟨⟨e.1.1.1,e.2⟩,e.1.1.2⟩,e.1.2⟩)) (hB2.a (fun k _ e=>⟨⟨⟨e.1.1.1,e.2⟩,e.1.1.2⟩,e.1.2⟩))⟩
   . intro k e b;rcases b with b | b | b
     . exact hd k e.1 b.1
     . omega
     . omega
   . intro k e;rcases e with e | e | e
     . exact R (A e.1)
     . exact R (R (by omega))
     . exact R (R (by omega))
   . exact(d.o.j (fun k e=>A e.1.1.1)).a (i.o.j (fun k e=>R e.1)) (fun _ e _=>e)
theorem Lr (w:X)(S So:Nat->Prop)(g:Nat)(s:bN)(c:UInt8)(ao:ag)(cap n:Nat)(es:List aU)(h:dM w S g s)(hG:fI s)(hp:s.a=3)(hk1:s.d.b≠1)(hO:iD w So ao cap es)(hd:∀k,S k->¬So k)(m:es.length=n)(T:n<=90000)(p:ey es)(t:et es)(z:bQ es<=90000):
 Calls prog 107 #[Q (M ⟨g,0,U⟩),Z ao n cap,I .u8 c.toNat] w fun e w'=>oj w S So g s c es e w':=by
 obtain⟨i,lp,hpp,bd,code,j,hI⟩:=h;cases hI with
 | dead c hc C=>omega
 | Kn G h0 L=>omega
 | NJ G gh D h1 L H=>omega
 | at2 G x h2 L hb B=>omega
 | at3 G x D h3 L B =>
   obtain⟨kg,k0,k4⟩:=hG.c hp;have c3:=j.y;have Af:=j.B;have hC:=I7 w (fun k=>((S k∧k≠g)∧D k)∧k<w.heap.size) x s.d c (B.a (fun k hk e=>⟨e,hk⟩)) kg;have ho:iG s.d c=[]:=by unfold iG;rw[if_neg (fun e=>hk1 e.2)]
   have hov:jb s.d c=decide ((de s.d c).a=0∧(de s.d c).b=4):=by unfold jb;rw[decide_eq_decide];exact⟨fun e=>⟨e.2.2.1,e.2.2.2⟩,fun e=>⟨k0,k4,e.1,e.2⟩⟩
   have hC2:Calls prog 413 #[Q (M ⟨x,0,U⟩),I .u8 c.toNat] w fun e w'=>∃W bc,e=Y (.tuple #[Z W 0 bc,.bool (decide ((de s.d c).a=0∧(de s.d c).b=4)),I J ((de s.d c).a:Int)])∧ju w' (ay (fun k=>((S k∧k≠g)∧D k)∧k<w.heap.size) w) x (de s.d c)∧am (fun k=>((S k∧k≠g)∧D k)∧k<w.heap.size) w w':=by
    refine hC.mono ?_;rintro e w' ⟨W,bc,he,_,hC',hT'⟩;refine⟨W,bc,?_,hC',hT'⟩;rw[he,ho,hov];rfl
   have hm:∀w,(method 527 285 (Q (M ⟨x,0,U⟩)) "Feed").run prog w=.ok (413,Q (M ⟨x,0,U⟩)) w:=fun _=>by kernel_rfl
   have q:cI s c=if (de s.d c).a≠0 then (kO s,[.fail (de s.d c).a]) else if (de s.d c).b=4 then ({ s with a:=0 },[.fin]) else ({ s with d:=de s.d c },[]):=by
    unfold cI;rw[if_neg (by omega),if_neg (by omega),if_pos hp,ho];rfl
   have HX:Hid (ct w g (Q (M ⟨G,0,U⟩)) (Q U) F (.iface 285 (Q (M ⟨x,0,U⟩))) 0∧cP w (fun k=>((S k∧k≠g)∧¬D k)∧k<w.heap.size) G s.b∧(∀k,S k->¬So k)∧S g) :=
    ⟨j,L.a (fun k hk e=>⟨e,hk⟩),hd,i⟩
   have V9:=aa (hO.f (S':=fun k=>So k∧k<w.heap.size) (fun k hk e=>⟨e,hk⟩));have HE:=aa (And.intro m (And.intro T (And.intro p (And.intro t z))));have HC:=aa hC2;clear hG p t z hO hd L B j i m kg k0 k4 h3 hC hC2 ho hov hk1;generalize de s.d c=u at *;by_cases d:u.a=0
   . rw[if_neg (fun e=>e d)] at q;by_cases C:u.b=4
     . rw[if_pos C] at q;rw[br ⟨d,C⟩,d] at HC;have r:=aa q;clear q d C;go_enter func107,ntmps107;go_wp2_with (go_at_call 413;refine HC.o.mono ?_;rintro e N ⟨W,bc,rfl,l,f⟩;have v:=HX.o.1.f f (fun e=>e.1.1.2 rfl);have p3:=v.y;have pf3:=v.j 3;have M7:=aa v;have b:=aa f;clear l f v)
       obtain⟨m,T,p,t,z⟩:=HE.o;obtain⟨j,y,hd,i⟩:=HX.o;have Dj:=am.r (fun k=>k=g) N ⟨g,3,U⟩ .nilIface rfl;have hE1:=(V9.o.a b.o (fun k e a=>hd k a.1.1.1 e.1)).a Dj (fun k e a=>hd g i (a▸e.1));refine(Ai _ _ ao cap n _ hE1 m (by omega) p t (by omega)).mono ?_;rintro e w4 ⟨sD,cap4,n4,rfl,M6,hO4,yX⟩;have HN4:=aa M6;have OL:=aa hO4;have XE:=aa yX
       clear m T p t z j y hd i Dj hE1 M6 hO4 yX;go_wp2;go_ret;obtain⟨j,y,hd,i⟩:=HX.o;have hs1:=b.o.b;have hz3:(N.setCell ⟨g,3,U⟩ .nilIface).heap.size=N.heap.size:=by simp
       have Dj:=am.r (fun k=>k=g) N ⟨g,3,U⟩ .nilIface rfl;have hP4:=(M7.o.H .nilIface).f XE.o (fun e=>hd g i e.1);have hL4:=((y.f b.o (fun k e a=>e.1.2 a.1.2)).f Dj (fun k e=>e.1.1.2)).f XE.o (fun k e a=>hd k e.1.1.1 a.1);refine .mk sD cap4 n4 (fun k=>S k∧k<w.heap.size) _ rfl (by rw[r.o];exact HN4.o) ?_ (by rw[r.o];exact OL.o) ?_ (fun k e=>A e.1) ?_ ?_
       . rw[r.o];exact⟨⟨i,Af⟩,_,_,_,_,hP4,.Kn G rfl (hL4.a (fun k _ e=>⟨⟨e.1.1.1,e.2⟩,e.1.1.2⟩))⟩
       . intro k e a;rcases a with a | a | a
         . exact hd k e.1 a.1
         . exact a
         . omega
       . intro k e;rcases e with e | e | e
         . exact R (A e.1)
         . exact e.elim
         . exact R (R (by omega))
       . exact(b.o.j (fun k e=>A e.1.1.1)).a ((Dj.j (fun k e=>by rw[e];exact A i)).a (XE.o.j (fun k e=>R e.1)) (fun _ e _=>e)) (fun _ e _=>e)
     . rw[if_neg C] at q;rw[ba (fun e=>C e.2),d] at HC;have r:=aa q;clear q d C;go_enter func107,ntmps107;go_wp2_with (go_at_call 413;refine HC.o.mono ?_;rintro e N ⟨W,bc,rfl,l,f⟩;have HB1:=aa l;have b:=aa f;clear l f)
       go_ret;obtain⟨m,T,p,t,z⟩:=HE.o;obtain⟨j,y,hd,i⟩:=HX.o;have hs1:=b.o.b;have hej:aE (es++(cI s c).2)=es:=by rw[r.o,fK];exact nQ es p
       refine .mk ao cap n (fun k=>(S k∧k<w.heap.size)∨w.heap.size<=k) (fun k=>So k∧k<w.heap.size) rfl (by rw[hej];exact m.symm) ?_ (by rw[hej];exact V9.o.a b.o (fun k e a=>hd k a.1.1.1 e.1)) ?_ ?_ (fun k e=>R (A e.1)) (b.o.j (fun k e=>A e.1.1.1))
       . rw[r.o];refine⟨A ⟨i,Af⟩,_,_,_,_,j.f b.o (fun e=>e.1.1.2 rfl),.at3 G x (fun k=>D k∨w.heap.size<=k) hp ((y.f b.o (fun k e a=>e.1.2 a.1.2)).a (fun k _ e=>⟨⟨A ⟨e.1.1.1,e.2⟩,e.1.1.2⟩,fun a=>?_⟩)) (HB1.o.a (fun k _ e=>?_))⟩
         . rcases a with a | a
           . exact e.1.2 a
           . have:=e.2;omega
         . rcases e with e | e
           . exact⟨⟨A ⟨e.1.1.1,e.2⟩,e.1.1.2⟩,A e.1.2⟩
           . exact⟨⟨R e,by omega⟩,R e⟩
       . intro k e a;rcases e with e | e
         . exact hd k e.1 a.1
         . omega
       . intro k e;rcases e with e | e
         . exact A e.1
         . exact R e
   . rw[if_pos d] at q;rw[ba (fun e=>d e.1)] at HC;have r:=aa q;have tc:((u.a:Int) != 0)=true:=by rw[di];omega
     have Ph:=aa d;clear q d;generalize u.a=cc at *;go_enter func107,ntmps107;go_wp2_with (go_at_call 413;refine HC.o.mono ?_;rintro e N ⟨W,bc,rfl,l,f⟩;have b:=aa f;clear l f)
     obtain⟨m,T,p,t,z⟩:=HE.o;obtain⟨j,y,hd,i⟩:=HX.o;refine(zu N g _ _ _ _ _ (fun k=>So k∧k<w.heap.size) ao cap n cc es (j.f b.o (fun e=>e.1.1.2 rfl)) (V9.o.a b.o (fun k e a=>hd k a.1.1.1 e.1)) (fun e=>hd g i e.1) m (by omega) p t (by omega)).mono ?_;rintro e w2 ⟨jZ,cap2,n2,rfl,hn2,hO2,hP2,jG⟩;have JB:=aa hn2;have EP:=aa hO2;have uw:=aa hP2;have HT2:=aa jG
     clear m T p t z j y hd i hn2 hO2 hP2 jG;go_wp2;go_ret;obtain⟨j,y,hd,i⟩:=HX.o;have hs1:=b.o.b;refine .mk jZ cap2 n2 (fun k=>k=g) _ rfl (by rw[r.o];exact JB.o) ?_ (by rw[r.o];exact EP.o) ?_ (fun k e=>by rw[e];exact A i) ?_ ?_
     . rw[r.o];exact⟨rfl,_,_,_,_,uw.o,.dead cc Ph.o rfl⟩
     . intro k e a;subst e;rcases a with a | a
       . exact hd k i a.1
       . omega
     . intro k e;rcases e with e | e
       . exact R (A e.1)
       . exact R (R (by omega))
     . refine(b.o.j (fun k e=>A e.1.1.1)).a (HT2.o.j (fun k e=>?_)) (fun _ e _=>e);rcases e with e | e
       . exact R e.1
       . rw[e];exact A i
