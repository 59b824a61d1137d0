/- Small texts, one behind the other: RqBody, RqBodyB, RqStep, RqStepC, RqStepD. -/
import Derived.Test.YthhklgjjnaeaoaaGreatDoorRqA
import Derived.Test.YthhklgjjnaeaoaaGreatDoorPk40
open Go.Value renaming int->I,string->V,slice->Z,pointer->Q
open Go.IntKind renaming i64->J
open Go.Obj renaming cells->K
open Go.Ending renaming returned->Y
open Option renaming none->U,some->M
open Bool renaming false->F
open Or renaming inl->A,inr->R
open Go renaming World->X
set_option maxHeartbeats 2000000
set_option maxRecDepth 100000
open Go.Proofs.Tryz
namespace Go.Proofs.YthhklgjjnaeaoaaGreatDoor
open Go.RowKit
theorem OX (w:X)(S:Nat->Prop)(g:Nat)(s:Ck.St)(c:UInt8)(h:oW w S g s)(i:Ck.Good s)(a:s.code=0)(b:s.ph=1):
 Calls prog 385 #[Q (M ⟨g,0,U⟩),I .u8 c.toNat] w fun e w'=>e=Y (.tuple #[Z (M ⟨w.heap.size,0,U⟩) 1 1,.bool F,I J 0])∧oW w' S g (Ck.next s c)∧iA w' 0 5 (M ⟨w.heap.size,0,U⟩) 1 [c]∧Turns S w w':=by
 have j:=Ck.lG.2 ⟨a,by omega⟩;obtain⟨y,nx,lf,z,B,C,r,l⟩:=h;obtain⟨rfl,rfl,rfl,rfl,rfl⟩:=l j;rw[j] at r;have k:=i.left b;have q:=i.yG;have d:Ck.lf s=s.left:=by unfold Ck.lf;rw[if_pos b]
 rw[d] at r;have f:Ck.nx s=1:=by unfold Ck.nx;rw[if_neg (by omega),if_neg (by omega)]
 rw[f] at r;have D:=r.cell 5 (by decide);have G:=r.cell 2 (by decide);have H:=r.frozen 2;have L:decide ((s.left:Int) > 0)=true:=aI (by omega);have t:=r.left ((s.left:Int)-1);have u:=r.turn 2 (I J ((s.left:Int)-1));have m:Ck.next s c={ s with left:=s.left-1,ph:=if s.left<=1 then 2 else 1 }:=by unfold Ck.next;rw[if_neg (fun e=>e a),if_neg (by omega),if_pos b]
 have N:Hid (Ck.out s c=[c]):=by unfold Hid Ck.out;rw[if_pos ⟨a,b⟩]
 have T:Hid (Ck.over s c=F):=by
  unfold Hid Ck.over;rw[bO,m];intro e;have:(if s.left<=1 then 2 else 1)=4:=e.2.2.2;split at this <;> omega
 have v:=a;have x:=H9 k
 clear r l  i j d f a b k;go_enter func385,ntmps385;go_wp2;go_ret3
 have n:Below (w.setCell ⟨g,2,U⟩ (I J ((s.left:Int)-1))).heap.size (w.setCell ⟨g,2,U⟩ (I J ((s.left:Int)-1))) ((w.setCell ⟨g,2,U⟩ (I J ((s.left:Int)-1))).alloc (K #[I .u8 (c.toNat:Int)] 5)):=(eY _ _).alloc (aM _) _;have a:=v;have k:=x.o;have p:(w.setCell ⟨g,2,U⟩ (I J ((s.left:Int)-1))).heap.size=w.heap.size:=by simp
 refine⟨by rw[<-p];rfl,oW.of m (t.stay n) ?_ (fun _=>⟨rfl,?_,?_,rfl,rfl⟩),?_,u.trans (Turns.of_below n) (fun _ e _=>e)⟩
 . rw[Ck.lG (s:={ s with left:=s.left-1,ph:=if s.left<=1 then 2 else 1 }) |>.2 ⟨a,by show(if s.left<=1 then 2 else 1)≠4;split <;> omega⟩]
 . unfold Ck.nx;simp only;split <;> rfl
 . unfold Ck.lf;simp only;split
   . rw[if_neg (by omega)];omega
   . rw[if_pos rfl];omega
 . rw[<-p];exact fM _ _ 1 (aA _) (by decide) rfl
theorem XB (w:X)(g:Nat)(o t bd:Value)(u:Bool)(a b c d f:Value)(p:iW w g o t u bd 0):
 (((((((((w.alloc (K #[V ⟨#[]⟩,V ⟨#[]⟩,I J 0,Z U 0 0,I J 0] 82)).alloc (K #[a,b,c,d,f] 82)).setCell ⟨g,1,U⟩ (Q U)).setCell ⟨g,2,U⟩ (.bool F)).setCell ⟨w.heap.size,0,U⟩ a).setCell ⟨w.heap.size,1,U⟩ b).setCell ⟨w.heap.size,2,U⟩ c).setCell ⟨w.heap.size,3,U⟩ d).setCell ⟨w.heap.size,4,U⟩ f).heap[w.heap.size]? = M (K #[a,b,c,d,f] 82 (0,0))∧iW (((((((((w.alloc (K #[V ⟨#[]⟩,V ⟨#[]⟩,I J 0,Z U 0 0,I J 0] 82)).alloc (K #[a,b,c,d,f] 82)).setCell ⟨g,1,U⟩ (Q U)).setCell ⟨g,2,U⟩ (.bool F)).setCell ⟨w.heap.size,0,U⟩ a).setCell ⟨w.heap.size,1,U⟩ b).setCell ⟨w.heap.size,2,U⟩ c).setCell ⟨w.heap.size,3,U⟩ d).setCell ⟨w.heap.size,4,U⟩ f) g o (Q U) F bd 0∧Turns (fun k=>k=g) w (((((((((w.alloc (K #[V ⟨#[]⟩,V ⟨#[]⟩,I J 0,Z U 0 0,I J 0] 82)).alloc (K #[a,b,c,d,f] 82)).setCell ⟨g,1,U⟩ (Q U)).setCell ⟨g,2,U⟩ (.bool F)).setCell ⟨w.heap.size,0,U⟩ a).setCell ⟨w.heap.size,1,U⟩ b).setCell ⟨w.heap.size,2,U⟩ c).setCell ⟨w.heap.size,3,U⟩ d).setCell ⟨w.heap.size,4,U⟩ f):=by
 have x:=p.lt;have q:Below w.heap.size w ((w.alloc (K #[V ⟨#[]⟩,V ⟨#[]⟩,I J 0,Z U 0 0,I J 0] 82)).alloc (K #[a,b,c,d,f] 82)):=((eY _ _).alloc (aM _) _).alloc (by simp) _;have l:((w.alloc (K #[V ⟨#[]⟩,V ⟨#[]⟩,I J 0,Z U 0 0,I J 0] 82)).alloc (K #[a,b,c,d,f] 82)).heap[w.heap.size]? = M (K #[V ⟨#[]⟩,V ⟨#[]⟩,I J 0,Z U 0 0,I J 0] 82 (0,0)):=by
  rw[(fJ _ _ U).block _ (by simp) (by simp),eX]
 have m:=((p.stay q).s1 (Q U)).s2 F;have n:=(fK (((w.alloc (K #[V ⟨#[]⟩,V ⟨#[]⟩,I J 0,Z U 0 0,I J 0] 82)).alloc (K #[a,b,c,d,f] 82)).setCell ⟨g,1,U⟩ (Q U)) ⟨g,2,U⟩ w.heap.size (.bool F) (by show w.heap.size≠g;omega)).trans ((fK ((w.alloc (K #[V ⟨#[]⟩,V ⟨#[]⟩,I J 0,Z U 0 0,I J 0] 82)).alloc (K #[a,b,c,d,f] 82)) ⟨g,1,U⟩ w.heap.size (Q U) (by show w.heap.size≠g;omega)).trans l);have y:=fu _ _ 0 _ _ a n;have z:=fu _ _ 1 _ _ b y;have B:=fu _ _ 2 _ _ c z;have C:=fu _ _ 3 _ _ d B;have D:=fu _ _ 4 _ _ f C;have i:∀(W:X) (j:Nat) (v:Value),Turns (fun k=>k=w.heap.size) W (W.setCell ⟨w.heap.size,j,U⟩ v):=fun W j v=>Turns.setCell _ W _ _ rfl;have r:=(i ((((w.alloc (K #[V ⟨#[]⟩,V ⟨#[]⟩,I J 0,Z U 0 0,I J 0] 82)).alloc (K #[a,b,c,d,f] 82)).setCell ⟨g,1,U⟩ (Q U)).setCell ⟨g,2,U⟩ (.bool F)) 0 a).trans ((i _ 1 b).trans ((i _ 2 c).trans ((i _ 3 d).trans (i _ 4 f) (fun _ e _=>e)) (fun _ e _=>e)) (fun _ e _=>e)) (fun _ e _=>e);refine⟨D,m.turns r (by omega),?_⟩;have s:∀(W:X) (j:Nat) (v:Value),Turns (fun k=>k=g) W (W.setCell ⟨g,j,U⟩ v):=fun W j v=>Turns.setCell _ W _ _ rfl;refine(Turns.of_below (S:=fun k=>k=g) q).trans (((s _ 1 _).trans (s _ 2 _) (fun _ e _=>e)).mono (S':=fun k=>k=g∨k=w.heap.size) (fun k e=>A e) |>.trans (r.mono (fun k e=>R e)) (fun _ e _=>e)) (fun k e G=>?_);rcases e with e | e
 . exact e
 . omega
theorem XC (w:X)(g f:Nat)(s bd:Value)(S:Nat->Prop)(h:Rq.Hd)(i:iW w g s (Q (M ⟨f,0,U⟩)) true bd 0)(D:jr w S f h)(y:¬S g):
 Calls prog 137 #[Q (M ⟨g,0,U⟩)] w fun e w'=>∃fo fZ,e=Y (.agg #[V ⟨h.method.toArray⟩,V ⟨h.target.toArray⟩,I J (h.minor:Int),Z fo h.fields.length fZ,I J h.length])∧iW w' g s (Q U) F bd 0∧nN w' S fo fZ h.fields.length (gG (Rq.nu h.fields))∧Turns (fun k=>k=g) w w':=by
 obtain⟨fo,fZ,t,z,G,B⟩:=D;have C:nN w S fo fZ h.fields.length (gG (Rq.nu h.fields)):=⟨z.qE,fun _ a e=>B a e⟩;have H:=C;have L:=H9 y
 have c:Below w.heap.size w (w.alloc (K #[V ⟨#[]⟩,V ⟨#[]⟩,I J 0,Z U 0 0,I J 0] 82)):=(eY _ _).alloc (aM _) _;have b:=(c.block f (aL.1 t).1).trans t;have c1:=(i.stay c).c1;have r0:=eZ _ f 0 _ _ _ b;have r1:=eZ _ f 1 _ _ _ b;have r2:=eZ _ f 2 _ _ _ b;have r3:=eZ _ f 3 _ _ _ b;have r4:=eZ _ f 4 _ _ _ b;have u:=i.lt;have n1:g≠w.heap.size:=by omega
 have n2:g≠w.heap.size+1:=by omega
 clear b t z G B C y u;generalize (⟨h.method.toArray⟩:ay)=l at *;generalize (⟨h.target.toArray⟩:ay)=m at *;generalize h.fields.length=n at *;generalize h.length=p at *;have d:Below w.heap.size w ((w.alloc (K #[V ⟨#[]⟩,V ⟨#[]⟩,I J 0,Z U 0 0,I J 0] 82)).alloc (K #[V l,V m,I J (h.minor:Int),Z fo n fZ,I J p] 82)):=c.trans ((eY _ _).alloc c.size _);have p1:=(i.stay d).c1;have p2:=(i.stay d).c2;have N:=(i.stay d).fz 1;have T:=(i.stay d).fz 2;go_enter func137,ntmps137;go_wp2;obtain⟨j,x,r⟩:=XB w g s _ bd _ (V l) (V m) (I J (h.minor:Int)) (Z fo n fZ) (I J p) i;revert j x r;generalize (((((((((w.alloc (K #[V ⟨#[]⟩,V ⟨#[]⟩,I J 0,Z U 0 0,I J 0] 82)).alloc (K #[V l,V m,I J (h.minor:Int),Z fo n fZ,I J p] 82)).setCell ⟨g,1,U⟩ (Q U)).setCell ⟨g,2,U⟩ (.bool F)).setCell ⟨w.heap.size,0,U⟩ (V l)).setCell ⟨w.heap.size,1,U⟩ (V m)).setCell ⟨w.heap.size,2,U⟩ (I J (h.minor:Int))).setCell ⟨w.heap.size,3,U⟩ (Z fo n fZ)).setCell ⟨w.heap.size,4,U⟩ (I J p))=q;intro j x r;have W:=eZ q w.heap.size 0 _ _ _ j;have z1:=eZ q w.heap.size 1 _ _ _ j;have z2:=eZ q w.heap.size 2 _ _ _ j;have z3:=eZ q w.heap.size 3 _ _ _ j;have z4:=eZ q w.heap.size 4 _ _ _ j;refine fI (v:=.agg #[V l,V m,I J (h.minor:Int),Z fo n fZ,I J p]) (by simp[results,results137,go_sem,W,z1,z2,z3,z4]) rfl ⟨fo,fZ,rfl,x,?_,r⟩;exact H.turns r (fun k hk e=>L.o (e▸hk))
theorem iW.failed {w:X}{g:Nat}{b d bd:Value}{f:Bool}{code:Int}(h:iW w g b d f bd code)(c:Int):
 iW (((((w.setCell ⟨g,0,U⟩ (Q U)).setCell ⟨g,1,U⟩ (Q U)).setCell ⟨g,2,U⟩ (.bool F)).setCell ⟨g,3,U⟩ .nilIface).setCell ⟨g,4,U⟩ (I J c)) g (Q U) (Q U) F .nilIface c ∧
 Turns (fun k=>k=g) w (((((w.setCell ⟨g,0,U⟩ (Q U)).setCell ⟨g,1,U⟩ (Q U)).setCell ⟨g,2,U⟩ (.bool F)).setCell ⟨g,3,U⟩ .nilIface).setCell ⟨g,4,U⟩ (I J c)):=by
 have a:∀(W:X) (j:Nat) (v:Value),Turns (fun k=>k=g) W (W.setCell ⟨g,j,U⟩ v):=fun W j v=>Turns.setCell _ W _ _ rfl;exact⟨((((h.s0 _).s1 _).s2 _).s3 _).s4 _,(a _ 0 _).trans ((a _ 1 _).trans ((a _ 2 _).trans ((a _ 3 _).trans (a _ 4 _) (fun _ e _=>e)) (fun _ e _=>e)) (fun _ e _=>e)) (fun _ e _=>e)⟩
inductive ZR (w:X)(g:Nat)(So:Nat->Prop)(es:List Rq.Ev)(c:Nat)(e:Ending)(w':X):Prop
 | mk (ao:ak) (cap n:Nat) (he:e=Y (Z ao n cap)) (hn:n=(Rq.join (es++[.fail c])).length) (hO:nM w' (gB So w) ao cap (Rq.join (es++[.fail c]))) (hP:iW w' g (Q U) (Q U) F .nilIface (c:Int)) (hT:Turns (fun k=>So k∨k=g) w w')
theorem Ey (w:X)(g:Nat)(p q bd:Value)(r:Bool)(code:Int)(So:Nat->Prop)(ao:ak)(cap n c:Nat)(es:List Rq.Ev)(a:iW w g p q r bd code)(h:nM w So ao cap es)(j:¬So g)(s:es.length=n)(t:n<=100000)(u:Rq.Joined es)(v:Rq.Full es)(x:Rq.iO es<=100000):
 Calls prog 136 #[Q (M ⟨g,0,U⟩),Z ao n cap,I J (c:Int)] w fun e w'=>ZR w g So es c e w':=by
 obtain⟨y,l⟩:=a.failed (c:Int);have i:=H9 y;have z:=H9 l
 have B:=H9 j;have S:=a.c0;have T:=a.c1;have W:=a.c2;have c3:=a.c3;have c4:=a.c4
 have f0:=a.fz 0;have f1:=a.fz 1;have f2:=a.fz 2;have f3:=a.fz 3;have f4:=a.fz 4
 go_enter func136,ntmps136;go_wp2_with fail
 refine(Xz _ So ao cap n c es (h.turns l (fun k C e=>j (e▸C))) s t u v x).mono ?_;rintro e w1 ⟨D,G,H,rfl,b,m,d⟩;have L:=H9 b;have N:=H9 m;have f:=H9 d
 clear b m d;go_wp2;go_ret;refine .mk D G H rfl L.o (N.o.mono (fun k _ e=>?_)) (i.o.turns f.o B.o) ?_
 . rcases e with e | e | e
   . exact A e
   . exact e.elim
   . exact R (by simpa using e)
 . exact(z.o.mono (fun k e=>R e)).trans (f.o.mono (fun k e=>A e)) (fun _ e _=>e)
theorem LQ {w:X}{a left:Nat}{v:Value}{c:UInt8}(d:a<w.heap.size)(f:(w.setCell ⟨a,0,U⟩ v).heap[a]? = M (K #[I J (left:Int)] 246 (0,0))):
 ((w.setCell ⟨a,0,U⟩ v).alloc (K #[I .u8 (c.toNat:Int)] 5)).drew.heap[a]? = M (K #[I J (left:Int)] 246 (0,0))∧iA ((w.setCell ⟨a,0,U⟩ v).alloc (K #[I .u8 (c.toNat:Int)] 5)).drew 0 5 (M ⟨w.heap.size,0,U⟩) 1 [c]∧Turns (fun k=>k=a) w ((w.setCell ⟨a,0,U⟩ v).alloc (K #[I .u8 (c.toNat:Int)] 5)).drew:=by
 have g:(w.setCell ⟨a,0,U⟩ v).heap.size=w.heap.size:=by simp
 have b:Below (w.setCell ⟨a,0,U⟩ v).heap.size (w.setCell ⟨a,0,U⟩ v) ((w.setCell ⟨a,0,U⟩ v).alloc (K #[I .u8 (c.toNat:Int)] 5)).drew:=((eY _ _).alloc (aM _) _).trans ⟨rfl,rfl,rfl,aM _,fun _ _=>rfl⟩;refine⟨(b.block a (by omega)).trans f,?_,(Turns.setCell (fun k=>k=a) w _ _ rfl).trans (Turns.of_below b) (fun _ e _=>e)⟩;have i:iA ((w.setCell ⟨a,0,U⟩ v).alloc (K #[I .u8 (c.toNat:Int)] 5)) 0 5 (M ⟨w.heap.size,0,U⟩) 1 [c]:=by
  rw[<-g];exact fM _ _ 1 (aA _) (by decide) rfl
 exact i.stay (gy _ _)
theorem LU (w:X)(a left:Nat)(c:UInt8)(g:w.heap[a]? = M (K #[I J (left:Int)] 246 (0,0)))(j:0<left)(l:left<=4000):
 Calls prog 390 #[Q (M ⟨a,0,U⟩),I .u8 c.toNat] w fun e w'=>e=Y (.tuple #[Z (M ⟨w.heap.size,0,U⟩) 1 1,.bool (decide (left<=1)),I J 0])∧w'.heap[a]? = M (K #[I J ((left-1:Nat):Int)] 246 (0,0))∧iA w' 0 5 (M ⟨w.heap.size,0,U⟩) 1 [c]∧Turns (fun k=>k=a) w w':=by
 have b:=(aL.1 g).1;have m:=eZ w a 0 _ _ _ g;have n:=fq w a 0 _ _ g;have o:((left:Int)-1==0)=decide (left<=1):=by rw[aH,aS,bP];omega
 have d:=fu w a 0 _ _ (I J ((left:Int)-1)) g;have f:(w.setCell ⟨a,0,U⟩ (I J ((left:Int)-1))).heap[a]? = M (K #[I J ((left-1:Nat):Int)] 246 (0,0)):=by
  rw[d];have:((left-1:Nat):Int)=(left:Int)-1:=by omega
  rw[this];rfl
 have i:=eZ _ a 0 _ _ _ d;have q:((w.setCell ⟨a,0,U⟩ (I J ((left:Int)-1))).alloc (K #[I .u8 (c.toNat:Int)] 5)).cell? ⟨a,0,U⟩=M (I J ((left:Int)-1)):=by
  rw[((eY _ _).alloc (aM _) _).cell (p:=⟨a,0,U⟩) (by simpa using b)];exact i
 generalize decide (left<=1)=r at *;go_enter func390,ntmps390;go_wp2;go_region
 all_goals (go_wp2;go_ret3;exact⟨rfl,LQ b f⟩)
theorem Jl (w:X)(k:Nat)(a:0<k):
 Calls prog 139 #[I J (k:Int)] w fun e w'=>e=Y (.iface 244 (Q (M ⟨w.heap.size,0,U⟩)))∧w'.heap[w.heap.size]? = M (K #[I J (k:Int)] 246 (0,0))∧Below w.heap.size w w':=by
 have b:((k:Int)==-1)=F:=aR.2 (by omega);go_enter func139,ntmps139;go_wp2;go_ret;exact⟨rfl,eX w _,(eY _ _).alloc (aM _) _⟩
theorem Fu (w:X):
 Calls prog 139 #[I J (-1)] w fun e w'=>∃g,e=Y (.iface 242 (Q (M ⟨g,0,U⟩)))∧oW w' (fun k=>w.heap.size<=k) g Ck.start∧Below w.heap.size w w':=by
 go_enter func139,ntmps139;go_wp2_with fail
 refine(EY w).mono ?_;rintro e f ⟨g,rfl,a,b⟩;have c:=H9 a;have d:=H9 b
 clear a b;go_wp2;go_ret;exact⟨g,rfl,c.o,d.o⟩
inductive mX (w:X)(S So:Nat->Prop)(g:Nat)(s:Rq.St)(c:UInt8)(es:List Rq.Ev)(e:Ending)(w':X):Prop
 | mk (ao:ak) (cap n:Nat) (S' So':Nat->Prop) (he:e=Y (Z ao n cap)) (hn:n=(Rq.join (es++(Rq.next s c).2)).length) (hR:jq w' S' g (Rq.next s c).1) (hO:nM w' So' ao cap (Rq.join (es++(Rq.next s c).2)))
  (hd:∀k,S' k->¬So' k) (hS:∀k,S' k->S k∨w.heap.size<=k) (hSo:∀k,So' k->S k∨So k∨w.heap.size<=k) (hT:Turns (fun k=>S k∨So k) w w')
theorem added {es:List Rq.Ev}{e:Rq.Ev}{n m:Nat}(f:es.length=n)(g:m=(Rq.join (es++[e])).length)(b:∀a,e=.body a->a≠[]∧a.length<=1)(d:Rq.Full es):
 m<=n+1∧Rq.iO (Rq.join (es++[e]))<=Rq.iO es+1∧Rq.Full (Rq.join (es++[e]))∧Rq.Joined (Rq.join (es++[e])):=by
 have c:=Rq.join_length (es++[e]);rw[aV] at c;refine⟨by simp at c;omega,?_,Rq.qx _ (Rq.A9 d (fun a ha=>?_)),Rq.lS _⟩
 . rw[Rq.qw,Rq.lU];cases e with
   | body a=>have:=(b a rfl).2;simp only[Rq.iO];omega
   | head _=>simp[Rq.iO]
   | fin=>simp[Rq.iO]
   | fail _=>simp[Rq.iO]
 . simp at ha;exact(b a ha.symm).1
theorem yw {w a b:X}{c B C:Nat->Prop}{d:Nat}{l:Ln.St}(h:gW w C d l)(e:Turns c w a)(f:Turns B a b)(g:∀k,C k->¬c k)(i:∀k,C k->¬B k):gW b C d l:=(h.turns e g).turns f i
theorem Ez (w:X)(S So:Nat->Prop)(g:Nat)(s:Rq.St)(c:UInt8)(ao:ak)(cap n:Nat)(es:List Rq.Ev)(h:jq w S g s)(hG:Rq.Good s)(hp:s.ph=2)(hO:nM w So ao cap es)(hd:∀k,S k->¬So k)(q:es.length=n)(W:n<=90000)(x:Rq.Joined es)(r:Rq.Full es)(T:Rq.iO es<=90000):
 Calls prog 84 #[Q (M ⟨g,0,U⟩),Z ao n cap,I .u8 c.toNat] w fun e w'=>mX w S So g s c es e w':=by
 obtain⟨l,lp,hpp,bd,code,m,hI⟩:=h;cases hI with
 | dead c hc h4=>omega
 | Jz gl h0 L=>omega
 | MC gl gh D h1 L H=>omega
 | at3 gl p D h3 L B=>omega
 | at2 gl p h2 L i B =>
   obtain⟨l0,l1⟩:=hG.left hp;have c3:=m.c3;have hgb:p<w.heap.size:=(aL.1 B).1;have zK:=m.lt;have HC:=H9 (LU w p s.left c B l0 l1);have hm:∀w,(method 501 244 (Q (M ⟨p,0,U⟩)) "Feed").run prog w=.ok (390,Q (M ⟨p,0,U⟩)) w:=fun _=>by kernel_rfl
   have HX:Hid (jq w S g s∧iW w g (Q (M ⟨gl,0,U⟩)) (Q U) F (.iface 244 (Q (M ⟨p,0,U⟩))) 0∧gW w (fun k=>((S k∧k≠g)∧k≠p)∧k<w.heap.size) gl s.ln∧(S p∧p≠g)∧(∀k,S k->¬So k)∧S g) :=
    ⟨⟨l,_,_,_,_,m,.at2 gl p h2 L i B⟩,m,L.mono (fun k hk e=>⟨e,hk⟩),i,hd,l⟩
   have UM:=H9 (hO.mono (S':=fun k=>So k∧k<w.heap.size) (fun k hk e=>⟨e,hk⟩));have HE:=H9 (And.intro q (And.intro W (And.intro x (And.intro r T))));have HLl:=H9 (And.intro l0 l1);have aaI:s.ph≠4:=by omega
   have HN:Hid (Rq.next s c=if s.left<=1 then ({ s with ph:=0,left:=0 },[.body [c],.fin]) else ({ s with left:=s.left-1 },[.body [c]])):=by
    unfold Hid Rq.next;rw[if_neg aaI,if_pos hp]
   clear hG x r T hO hd L i B m l q l0 l1 aaI h2;by_cases t:s.left<=1
   . rw[aI t] at HC;have HV:=H9 t;clear t;go_enter func84,ntmps84;go_wp2_with (go_at_call 390;refine HC.o.mono ?_;rintro e w1 ⟨rfl,y,sj,z⟩;have HB1:=H9 y;have BZ:=H9 sj;have d:=H9 z;clear y sj z)
     obtain⟨q,W,x,r,T⟩:=HE.o;obtain⟨_,m,hL,i,hd,l⟩:=HX.o;have f:gK w1 (fun k=>k=w.heap.size) 5 (M ⟨w.heap.size,0,U⟩) 1 [c]:=A ⟨by simp,BZ.o,fun a e=>by injection e with e;subst e;rfl⟩;have C:=UM.o.turns d.o (fun k e b=>hd p i.1 (b▸e.1));refine(Ew w1 (fun k=>So k∧k<w.heap.size) (fun k=>k=w.heap.size) ao _ cap n 1 1 [c] es C f (by simp) rfl (by omega) (fun k e b=>by omega) q (by omega) x r (by omega)).mono ?_;rintro e w2 ⟨jZ,G,n2,rfl,u,N,jN⟩;have hadd:=added q u (fun a e=>by injection e with e;subst e;exact⟨by simp,by simp⟩) r;have v:iW w2 g _ _ _ _ _:=(m.turns d.o (fun e=>i.2 e.symm)).turns jN (fun e=>hd g l e.1);have p3:=v.c3;have pf3:=v.fz 3;have tC:=H9 v;have IJ:=H9 N;have j:=H9 jN;have Zv:=H9 hadd;have Wn:=H9 u
     clear q W x r T m hL i hd l f C u N jN hadd v c3;go_wp2_with fail
     obtain⟨q,W,x,r,T⟩:=HE.o;obtain⟨_,m,hL,i,hd,l⟩:=HX.o;obtain⟨a1,a2,a3,a4⟩:=Zv.o;have hs1:=d.o.size;have hs2:=j.o.size;have Cb:=Turns.setCell (fun k=>k=g) w2 ⟨g,3,U⟩ .nilIface rfl;have hE3:=IJ.o.turns Cb (fun k e b=>by
      subst b;rcases e with e | e | e
      . exact hd k l e.1
      . omega
      . omega)
     refine(Jk _ _ jZ G n2 _ hE3 Wn.o.symm (by omega) a4 a3 (by omega)).mono ?_;rintro e w4 ⟨rO,cap4,n4,rfl,OY,hO4,vQ⟩;have HN4:=H9 OY;have JA:=H9 hO4;have V6:=H9 vQ
     clear q W x r T m hL i hd l Cb hE3 OY hO4 vQ a1 a2 a3 a4 hs1 hs2;go_wp2;go_ret;obtain⟨q,W,x,r,T⟩:=HE.o;obtain⟨_,m,hL,i,hd,l⟩:=HX.o;have hs1:=d.o.size;have hs2:=j.o.size;have hz3:(w2.setCell ⟨g,3,U⟩ .nilIface).heap.size=w2.heap.size:=by simp
     have hN:=HN.o;rw[if_pos HV.o] at hN;have hj2:Rq.join (Rq.join (es++[.body [c]])++[.fin])=Rq.join (es++(Rq.next s c).2):=by rw[hN];exact Rq.J8 es [.body [c]] [.fin]
     have Cb:=Turns.setCell (fun k=>k=g) w2 ⟨g,3,U⟩ .nilIface rfl;have hP4:=(tC.o.s3 .nilIface).turns V6.o (fun e=>by
      rcases e with e | e | e
      . exact hd g l e.1
      . omega
      . omega)
     have hL4:=((yw hL d.o j.o (fun k e=>e.1.2) (fun k e b=>hd k e.1.1.1 b.1)).turns Cb (fun k e=>e.1.1.2)).turns V6.o (fun k e b=>by
      rcases b with b | b | b
      . exact hd k e.1.1.1 b.1
      . have:=e.2;omega
      . have:=e.2;omega)
     refine .mk rO cap4 n4 (fun k=>S k∧k<w.heap.size) _ rfl (by rw[<-hj2];exact HN4.o) ?_ (by rw[<-hj2];exact JA.o) ?_ (fun k e=>A e.1) ?_ ?_
     . rw[hN];exact⟨⟨l,zK⟩,_,_,_,_,hP4,.Jz gl rfl (hL4.mono (fun k _ e=>⟨⟨e.1.1.1,e.2⟩,e.1.1.2⟩))⟩
     . intro k e b;rcases b with (b | b | b) | b | b
       . exact hd k e.1 b.1
       . omega
       . omega
       . exact b
       . omega
     . intro k e;rcases e with (e | e | e) | e | e
       . exact R (A e.1)
       . exact R (R (by omega))
       . exact R (R (by omega))
       . exact e.elim
       . exact R (R (by omega))
     . refine(d.o.mono (fun k e=>by rw[e];exact A i.1)).trans ((j.o.mono (S':=fun k=>(S k∨So k)∨w.heap.size<=k) (fun k e=>A (R e.1))).trans ((Cb.mono (fun k e=>by rw[e];exact A (A l))).trans (V6.o.mono (fun k e=>?_)) (fun _ e _=>e)) (fun _ e _=>e)) (fun k e hk=>?_)
       . rcases e with e | e | e
         . exact A (R e.1)
         . exact R (by omega)
         . exact R (by omega)
       . rcases e with e | e
         . exact e
         . omega
   . rw[aJ t] at HC;have HV:=H9 t;clear t;go_enter func84,ntmps84;go_wp2_with (go_at_call 390;refine HC.o.mono ?_;rintro e w1 ⟨rfl,y,sj,z⟩;have HB1:=H9 y;have BZ:=H9 sj;have d:=H9 z;clear y sj z)
     obtain⟨q,W,x,r,T⟩:=HE.o;obtain⟨_,m,hL,i,hd,l⟩:=HX.o;have f:gK w1 (fun k=>k=w.heap.size) 5 (M ⟨w.heap.size,0,U⟩) 1 [c]:=A ⟨by simp,BZ.o,fun a e=>by injection e with e;subst e;rfl⟩;have C:=UM.o.turns d.o (fun k e b=>hd p i.1 (b▸e.1));refine(Ew w1 (fun k=>So k∧k<w.heap.size) (fun k=>k=w.heap.size) ao _ cap n 1 1 [c] es C f (by simp) rfl (by omega) (fun k e b=>by omega) q (by omega) x r (by omega)).mono ?_;rintro e w2 ⟨jZ,G,n2,rfl,u,N,jN⟩;have IJ:=H9 N;have j:=H9 jN;have Wn:=H9 u
     clear q W x r T m hL i hd l f C u N jN c3;go_wp2;go_ret;obtain⟨q,W,x,r,T⟩:=HE.o;obtain⟨_,m,hL,i,hd,l⟩:=HX.o;have hs1:=d.o.size;have hN:=HN.o;rw[if_neg HV.o] at hN;have v:=(m.turns d.o (fun e=>i.2 e.symm)).turns j.o (fun e=>hd g l e.1);have hB2:=j.o.row HB1.o (fun e=>hd p i.1 e.1);have hL2:=yw hL d.o j.o (fun k e=>e.1.2) (fun k e b=>hd k e.1.1.1 b.1);refine .mk jZ G n2 (fun k=>S k∧k<w.heap.size) _ rfl (by rw[hN];exact Wn.o) ?_ (by rw[hN];exact IJ.o) ?_ (fun k e=>A e.1) ?_ ?_
     . rw[hN];exact⟨⟨l,zK⟩,_,_,_,_,v,.at2 gl p hp (hL2.mono (fun k _ e=>⟨⟨⟨e.1.1.1,e.2⟩,e.1.1.2⟩,e.1.2⟩)) ⟨⟨i.1,hgb⟩,i.2⟩ hB2⟩
     . intro k e b;rcases b with b | b | b
       . exact hd k e.1 b.1
       . omega
       . omega
     . intro k e;rcases e with e | e | e
       . exact R (A e.1)
       . exact R (R (by omega))
       . exact R (R (by omega))
     . exact(d.o.mono (fun k e=>by rw[e];exact A i.1)).trans (j.o.mono (fun k e=>R e.1)) (fun _ e _=>e)
theorem Fv (w:X)(S So:Nat->Prop)(g:Nat)(s:Rq.St)(c:UInt8)(ao:ak)(cap n:Nat)(es:List Rq.Ev)(h:jq w S g s)(hG:Rq.Good s)(hp:s.ph=3)(l:s.ck.ph=1)(hO:nM w So ao cap es)(hd:∀k,S k->¬So k)(q:es.length=n)(hl:n<=90000)(r:Rq.Joined es)(t:Rq.Full es)(x:Rq.iO es<=90000):
 Calls prog 84 #[Q (M ⟨g,0,U⟩),Z ao n cap,I .u8 c.toNat] w fun e w'=>mX w S So g s c es e w':=by
 obtain⟨m,lp,hpp,bd,code,j,hI⟩:=h;cases hI with
 | dead c hc h4=>omega
 | Jz u h0 L=>omega
 | MC u gh D h1 L H=>omega
 | at2 u v h2 L hb B=>omega
 | at3 u v D h3 L B =>
   obtain⟨kg,y,k4⟩:=hG.ck hp;have c3:=j.c3;have zK:=j.lt;have HC:=H9 (OX w (fun k=>((S k∧k≠g)∧D k)∧k<w.heap.size) v s.ck c (B.mono (fun k z e=>⟨e,z⟩)) kg y l);have hm:∀w,(method 501 242 (Q (M ⟨v,0,U⟩)) "Feed").run prog w=.ok (385,Q (M ⟨v,0,U⟩)) w:=fun _=>by kernel_rfl
   have p:Ck.next s.ck c={ s.ck with left:=s.ck.left-1,ph:=if s.ck.left<=1 then 2 else 1 }:=by unfold Ck.next;rw[if_neg (fun e=>e y),if_neg (by omega),if_pos l]
   have HN:Hid (Rq.next s c=({ s with ck:=Ck.next s.ck c },[.body [c]])):=by
    unfold Hid Rq.next;rw[if_neg (by omega),if_neg (by omega),if_pos hp,if_neg (by rw[p];exact fun e=>e y),if_neg (by rw[p];show ¬(if s.ck.left<=1 then 2 else 1)=4;split <;> omega)];have ho:Ck.out s.ck c=[c]:=by unfold Ck.out;rw[if_pos ⟨y,l⟩]
    rw[ho];unfold Rq.some_;rw[if_neg (by simp)]
   have HX:Hid (iW w g (Q (M ⟨u,0,U⟩)) (Q U) F (.iface 242 (Q (M ⟨v,0,U⟩))) 0∧gW w (fun k=>((S k∧k≠g)∧¬D k)∧k<w.heap.size) u s.ln∧(∀k,S k->¬So k)∧S g) :=
    ⟨j,L.mono (fun k z e=>⟨e,z⟩),hd,m⟩
   have UM:=H9 (hO.mono (S':=fun k=>So k∧k<w.heap.size) (fun k z e=>⟨e,z⟩));have HE:=H9 (And.intro q (And.intro hl (And.intro r (And.intro t x))));clear hG r t x hO hd L B j m q kg y k4 p h3;go_enter func84,ntmps84;go_wp2_with (go_at_call 385;refine HC.o.mono ?_;rintro e w1 ⟨rfl,C,sj,G⟩;have HB1:=H9 C;have BZ:=H9 sj;have d:=H9 G;clear C sj G)
   obtain⟨q,hl,r,t,x⟩:=HE.o;obtain⟨j,hL,hd,m⟩:=HX.o;have f:gK w1 (fun k=>k=w.heap.size) 5 (M ⟨w.heap.size,0,U⟩) 1 [c]:=A ⟨by simp,BZ.o,fun a e=>by injection e with e;subst e;rfl⟩;have N:=UM.o.turns d.o (fun k e b=>hd k b.1.1.1 e.1);refine(Ew w1 (fun k=>So k∧k<w.heap.size) (fun k=>k=w.heap.size) ao _ cap n 1 1 [c] es N f (by simp) rfl (by omega) (fun k e b=>by omega) q (by omega) r t (by omega)).mono ?_;rintro e w2 ⟨jZ,T,n2,rfl,W,hO2,jN⟩;have IJ:=H9 hO2;have i:=H9 jN;have Wn:=H9 W
   clear q hl r t x j hL hd m f N W hO2 jN c3;go_wp2;go_ret;obtain⟨q,hl,r,t,x⟩:=HE.o;obtain⟨j,hL,hd,m⟩:=HX.o;have hs1:=d.o.size;have hN:=HN.o;have hP2:=(j.turns d.o (fun e=>e.1.1.2 rfl)).turns i.o (fun e=>hd g m e.1);have hL2:=yw hL d.o i.o (fun k e b=>e.1.2 b.1.2) (fun k e b=>hd k e.1.1.1 b.1);have hB2:=(HB1.o.turns i.o (fun k e b=>hd k e.1.1.1 b.1));refine .mk jZ T n2 (fun k=>S k∧k<w.heap.size) _ rfl (by rw[hN];exact Wn.o) ?_ (by rw[hN];exact IJ.o) ?_ (fun k e=>A e.1) ?_ ?_
   . rw[hN];exact⟨⟨m,zK⟩,_,_,_,_,hP2,.at3 u v D hp (hL2.mono (fun k _ e=>⟨⟨⟨e.1.1.1,e.2⟩,e.1.1.2⟩,e.1.2⟩)) (hB2.mono (fun k _ e=>⟨⟨⟨e.1.1.1,e.2⟩,e.1.1.2⟩,e.1.2⟩))⟩
   . intro k e b;rcases b with b | b | b
     . exact hd k e.1 b.1
     . omega
     . omega
   . intro k e;rcases e with e | e | e
     . exact R (A e.1)
     . exact R (R (by omega))
     . exact R (R (by omega))
   . exact(d.o.mono (fun k e=>A e.1.1.1)).trans (i.o.mono (fun k e=>R e.1)) (fun _ e _=>e)
theorem Fw (w:X)(S So:Nat->Prop)(g:Nat)(s:Rq.St)(c:UInt8)(ao:ak)(cap n:Nat)(es:List Rq.Ev)(h:jq w S g s)(hG:Rq.Good s)(hp:s.ph=3)(hk1:s.ck.ph≠1)(hO:nM w So ao cap es)(hd:∀k,S k->¬So k)(m:es.length=n)(T:n<=90000)(p:Rq.Joined es)(t:Rq.Full es)(z:Rq.iO es<=90000):
 Calls prog 84 #[Q (M ⟨g,0,U⟩),Z ao n cap,I .u8 c.toNat] w fun e w'=>mX w S So g s c es e w':=by
 obtain⟨i,lp,hpp,bd,code,j,hI⟩:=h;cases hI with
 | dead c hc C=>omega
 | Jz G h0 L=>omega
 | MC G gh D h1 L H=>omega
 | at2 G x h2 L hb B=>omega
 | at3 G x D h3 L B =>
   obtain⟨kg,k0,k4⟩:=hG.ck hp;have c3:=j.c3;have zK:=j.lt;have hC:=Dy w (fun k=>((S k∧k≠g)∧D k)∧k<w.heap.size) x s.ck c (B.mono (fun k hk e=>⟨e,hk⟩)) kg;have ho:Ck.out s.ck c=[]:=by unfold Ck.out;rw[if_neg (fun e=>hk1 e.2)]
   have hov:Ck.over s.ck c=decide ((Ck.next s.ck c).code=0∧(Ck.next s.ck c).ph=4):=by unfold Ck.over;rw[decide_eq_decide];exact⟨fun e=>⟨e.2.2.1,e.2.2.2⟩,fun e=>⟨k0,k4,e.1,e.2⟩⟩
   have hC2:Calls prog 385 #[Q (M ⟨x,0,U⟩),I .u8 c.toNat] w fun e w'=>∃W bc,e=Y (.tuple #[Z W 0 bc,.bool (decide ((Ck.next s.ck c).code=0∧(Ck.next s.ck c).ph=4)),I J ((Ck.next s.ck c).code:Int)])∧oW w' (gB (fun k=>((S k∧k≠g)∧D k)∧k<w.heap.size) w) x (Ck.next s.ck c)∧Turns (fun k=>((S k∧k≠g)∧D k)∧k<w.heap.size) w w':=by
    refine hC.mono ?_;rintro e w' ⟨W,bc,he,_,hC',hT'⟩;refine⟨W,bc,?_,hC',hT'⟩;rw[he,ho,hov];rfl
   have hm:∀w,(method 501 242 (Q (M ⟨x,0,U⟩)) "Feed").run prog w=.ok (385,Q (M ⟨x,0,U⟩)) w:=fun _=>by kernel_rfl
   have q:Rq.next s c=if (Ck.next s.ck c).code≠0 then (Rq.dead s,[.fail (Ck.next s.ck c).code]) else if (Ck.next s.ck c).ph=4 then ({ s with ph:=0 },[.fin]) else ({ s with ck:=Ck.next s.ck c },[]):=by
    unfold Rq.next;rw[if_neg (by omega),if_neg (by omega),if_pos hp,ho];rfl
   have HX:Hid (iW w g (Q (M ⟨G,0,U⟩)) (Q U) F (.iface 242 (Q (M ⟨x,0,U⟩))) 0∧gW w (fun k=>((S k∧k≠g)∧¬D k)∧k<w.heap.size) G s.ln∧(∀k,S k->¬So k)∧S g) :=
    ⟨j,L.mono (fun k hk e=>⟨e,hk⟩),hd,i⟩
   have UM:=H9 (hO.mono (S':=fun k=>So k∧k<w.heap.size) (fun k hk e=>⟨e,hk⟩));have HE:=H9 (And.intro m (And.intro T (And.intro p (And.intro t z))));have HC:=H9 hC2;clear hG p t z hO hd L B j i m kg k0 k4 h3 hC hC2 ho hov hk1;generalize Ck.next s.ck c=u at *;by_cases d:u.code=0
   . rw[if_neg (fun e=>e d)] at q;by_cases C:u.ph=4
     . rw[if_pos C] at q;rw[aI ⟨d,C⟩,d] at HC;have r:=H9 q;clear q d C;go_enter func84,ntmps84;go_wp2_with (go_at_call 385;refine HC.o.mono ?_;rintro e N ⟨W,bc,rfl,l,f⟩;have v:=HX.o.1.turns f (fun e=>e.1.1.2 rfl);have p3:=v.c3;have pf3:=v.fz 3;have ZT:=H9 v;have b:=H9 f;clear l f v)
       obtain⟨m,T,p,t,z⟩:=HE.o;obtain⟨j,y,hd,i⟩:=HX.o;have Cb:=Turns.setCell (fun k=>k=g) N ⟨g,3,U⟩ .nilIface rfl;have hE1:=(UM.o.turns b.o (fun k e a=>hd k a.1.1.1 e.1)).turns Cb (fun k e a=>hd g i (a▸e.1));refine(Jk _ _ ao cap n _ hE1 m (by omega) p t (by omega)).mono ?_;rintro e w4 ⟨rO,cap4,n4,rfl,OY,hO4,vQ⟩;have HN4:=H9 OY;have JA:=H9 hO4;have V6:=H9 vQ
       clear m T p t z j y hd i Cb hE1 OY hO4 vQ;go_wp2;go_ret;obtain⟨j,y,hd,i⟩:=HX.o;have hs1:=b.o.size;have hz3:(N.setCell ⟨g,3,U⟩ .nilIface).heap.size=N.heap.size:=by simp
       have Cb:=Turns.setCell (fun k=>k=g) N ⟨g,3,U⟩ .nilIface rfl;have hP4:=(ZT.o.s3 .nilIface).turns V6.o (fun e=>hd g i e.1);have hL4:=((y.turns b.o (fun k e a=>e.1.2 a.1.2)).turns Cb (fun k e=>e.1.1.2)).turns V6.o (fun k e a=>hd k e.1.1.1 a.1);refine .mk rO cap4 n4 (fun k=>S k∧k<w.heap.size) _ rfl (by rw[r.o];exact HN4.o) ?_ (by rw[r.o];exact JA.o) ?_ (fun k e=>A e.1) ?_ ?_
       . rw[r.o];exact⟨⟨i,zK⟩,_,_,_,_,hP4,.Jz G rfl (hL4.mono (fun k _ e=>⟨⟨e.1.1.1,e.2⟩,e.1.1.2⟩))⟩
       . intro k e a;rcases a with a | a | a
         . exact hd k e.1 a.1
         . exact a
         . omega
       . intro k e;rcases e with e | e | e
         . exact R (A e.1)
         . exact e.elim
         . exact R (R (by omega))
       . exact(b.o.mono (fun k e=>A e.1.1.1)).trans ((Cb.mono (fun k e=>by rw[e];exact A i)).trans (V6.o.mono (fun k e=>R e.1)) (fun _ e _=>e)) (fun _ e _=>e)
     . rw[if_neg C] at q;rw[aJ (fun e=>C e.2),d] at HC;have r:=H9 q;clear q d C;go_enter func84,ntmps84;go_wp2_with (go_at_call 385;refine HC.o.mono ?_;rintro e N ⟨W,bc,rfl,l,f⟩;have HB1:=H9 l;have b:=H9 f;clear l f)
       go_ret;obtain⟨m,T,p,t,z⟩:=HE.o;obtain⟨j,y,hd,i⟩:=HX.o;have hs1:=b.o.size;have hej:Rq.join (es++(Rq.next s c).2)=es:=by rw[r.o,bU];exact Rq.jd es p
       refine .mk ao cap n (fun k=>(S k∧k<w.heap.size)∨w.heap.size<=k) (fun k=>So k∧k<w.heap.size) rfl (by rw[hej];exact m.symm) ?_ (by rw[hej];exact UM.o.turns b.o (fun k e a=>hd k a.1.1.1 e.1)) ?_ ?_ (fun k e=>R (A e.1)) (b.o.mono (fun k e=>A e.1.1.1))
       . rw[r.o];refine⟨A ⟨i,zK⟩,_,_,_,_,j.turns b.o (fun e=>e.1.1.2 rfl),.at3 G x (fun k=>D k∨w.heap.size<=k) hp ((y.turns b.o (fun k e a=>e.1.2 a.1.2)).mono (fun k _ e=>⟨⟨A ⟨e.1.1.1,e.2⟩,e.1.1.2⟩,fun a=>?_⟩)) (HB1.o.mono (fun k _ e=>?_))⟩
         . rcases a with a | a
           . exact e.1.2 a
           . have:=e.2;omega
         . rcases e with e | e
           . exact⟨⟨A ⟨e.1.1.1,e.2⟩,e.1.1.2⟩,A e.1.2⟩
           . exact⟨⟨R e,by omega⟩,R e⟩
       . intro k e a;rcases e with e | e
         . exact hd k e.1 a.1
         . omega
       . intro k e;rcases e with e | e
         . exact A e.1
         . exact R e
   . rw[if_pos d] at q;rw[aJ (fun e=>d e.1)] at HC;have r:=H9 q;have tc:((u.code:Int) != 0)=true:=by rw[cK];omega
     have NV:=H9 d;clear q d;generalize u.code=cc at *;go_enter func84,ntmps84;go_wp2_with (go_at_call 385;refine HC.o.mono ?_;rintro e N ⟨W,bc,rfl,l,f⟩;have b:=H9 f;clear l f)
     obtain⟨m,T,p,t,z⟩:=HE.o;obtain⟨j,y,hd,i⟩:=HX.o;refine(Ey N g _ _ _ _ _ (fun k=>So k∧k<w.heap.size) ao cap n cc es (j.turns b.o (fun e=>e.1.1.2 rfl)) (UM.o.turns b.o (fun k e a=>hd k a.1.1.1 e.1)) (fun e=>hd g i e.1) m (by omega) p t (by omega)).mono ?_;rintro e w2 ⟨jZ,cap2,n2,rfl,hn2,hO2,hP2,jN⟩;have Wn:=H9 hn2;have IJ:=H9 hO2;have tC:=H9 hP2;have HT2:=H9 jN
     clear m T p t z j y hd i hn2 hO2 hP2 jN;go_wp2;go_ret;obtain⟨j,y,hd,i⟩:=HX.o;have hs1:=b.o.size;refine .mk jZ cap2 n2 (fun k=>k=g) _ rfl (by rw[r.o];exact Wn.o) ?_ (by rw[r.o];exact IJ.o) ?_ (fun k e=>by rw[e];exact A i) ?_ ?_
     . rw[r.o];exact⟨rfl,_,_,_,_,tC.o,.dead cc NV.o rfl⟩
     . intro k e a;subst e;rcases a with a | a
       . exact hd k i a.1
       . omega
     . intro k e;rcases e with e | e
       . exact R (A e.1)
       . exact R (R (by omega))
     . refine(b.o.mono (fun k e=>A e.1.1.1)).trans (HT2.o.mono (fun k e=>?_)) (fun _ e _=>e);rcases e with e | e
       . exact R e.1
       . rw[e];exact A i
end Go.Proofs.YthhklgjjnaeaoaaGreatDoor