/- Small texts, one behind the other: RqBody, RqBodyB, RqStep, RqStepC, RqStepD. -/
import Derived.Test.YtjmndjmhjleabaaGreatDoorRqA
import Derived.Test.YtjmndjmhjleabaaGreatDoorPk41
open Go.Value renaming int->I,string->V,slice->Z,pointer->Q
open Go.IntKind renaming i64->J
open Go.Obj renaming cells->K
open Go.Ending renaming returned->Y
open Option renaming none->U,some->M
open Bool renaming false->F
open Or renaming inl->A,inr->R
open Go renaming World->X
set_option maxHeartbeats 2000000
set_option maxRecDepth 100000
open Go.Proofs.Tryz
namespace Go.Proofs.YtjmndjmhjleabaaGreatDoor
open Go.RowKit
theorem Pj (w:X)(S:Nat->Prop)(g:Nat)(s:Ck.St)(c:UInt8)(h:pU w S g s)(i:Ck.Good s)(a:s.code=0)(b:s.ph=1):
 Calls prog 338 #[Q (M ⟨g,0,U⟩),I .u8 c.toNat] w fun e w'=>e=Y (.tuple #[Z (M ⟨w.heap.size,0,U⟩) 1 1,.bool F,I J 0])∧pU w' S g (Ck.next s c)∧iD w' 0 5 (M ⟨w.heap.size,0,U⟩) 1 [c]∧Turns S w w':=by
 have j:Ck.pc s=0:=Ck.lW.2 ⟨a,by omega⟩;obtain⟨z,nx,lf,B,C,D,r,m⟩:=h;obtain⟨rfl,rfl,rfl,rfl,rfl⟩:=m j;rw[j] at r;have k:=i.left b;have q:=i.I8;have d:Ck.lf s=s.left:=by unfold Ck.lf;rw[if_pos b]
 rw[d] at r;have f:Ck.nx s=1:=by unfold Ck.nx;rw[if_neg (by omega),if_neg (by omega)]
 rw[f] at r;have G:w.cell? ⟨g,5,U⟩=M (I J 0):=r.cell 5 (by decide);have H:w.cell? ⟨g,2,U⟩=M (I J (s.left:Int)):=r.cell 2 (by decide);have L:w.frozen? ⟨g,2,U⟩=F:=r.frozen 2;have N:decide ((s.left:Int) > 0)=true:=aH (by omega);have t:=H9 (r.left ((s.left:Int)-1));have u:=H9 (r.turn 2 (I J ((s.left:Int)-1)));have l:Ck.next s c={ s with left:=s.left-1,ph:=if s.left<=1 then 2 else 1 }:=by unfold Ck.next;rw[if_neg (fun e=>e a),if_neg (by omega),if_pos b]
 have v:=H9 l;have O:Hid (Ck.out s c=[c]):=by unfold Hid Ck.out;rw[if_pos ⟨a,b⟩]
 have P:Hid (Ck.over s c=F):=by
  unfold Hid Ck.over;rw[bP,l];intro e;have:(if s.left<=1 then 2 else 1)=4:=e.2.2.2;split at this <;> omega
 have x:=H9 a;have y:=H9 k
 clear r m l i j d f a b k;go_enter func338,ntmps338;go_wp2;go_ret3
 have n:Below (w.setCell ⟨g,2,U⟩ (I J ((s.left:Int)-1))).heap.size (w.setCell ⟨g,2,U⟩ (I J ((s.left:Int)-1))) ((w.setCell ⟨g,2,U⟩ (I J ((s.left:Int)-1))).alloc (K #[I .u8 (c.toNat:Int)] 5)):=(fI _ _).alloc (aL _) _;have a:=x.o;have k:=y.o;have p:(w.setCell ⟨g,2,U⟩ (I J ((s.left:Int)-1))).heap.size=w.heap.size:=by simp
 refine⟨by rw[<-p];rfl,pU.of v.o (t.o.stay n) ?_ (fun _=>⟨rfl,?_,?_,rfl,rfl⟩),?_,u.o.trans (Turns.of_below n) (fun _ e _=>e)⟩
 . rw[Ck.lW (s:={ s with left:=s.left-1,ph:=if s.left<=1 then 2 else 1 }) |>.2 ⟨a,by show(if s.left<=1 then 2 else 1)≠4;split <;> omega⟩]
 . unfold Ck.nx;simp only;split <;> rfl
 . unfold Ck.lf;simp only;split
   . rw[if_neg (by omega)];omega
   . rw[if_pos rfl];omega
 . rw[<-p];exact gD _ _ 1 (ay _) (by decide) rfl
theorem XJ (w:X)(g:Nat)(o t bd:Value)(u:Bool)(a b c d f:Value)(p:jf w g o t u bd 0):
 (((((((((w.alloc (K #[V ⟨#[]⟩,V ⟨#[]⟩,I J 0,Z U 0 0,I J 0] 68)).alloc (K #[a,b,c,d,f] 68)).setCell ⟨g,1,U⟩ (Q U)).setCell ⟨g,2,U⟩ (.bool F)).setCell ⟨w.heap.size,0,U⟩ a).setCell ⟨w.heap.size,1,U⟩ b).setCell ⟨w.heap.size,2,U⟩ c).setCell ⟨w.heap.size,3,U⟩ d).setCell ⟨w.heap.size,4,U⟩ f).heap[w.heap.size]? = M (K #[a,b,c,d,f] 68 (0,0))∧jf (((((((((w.alloc (K #[V ⟨#[]⟩,V ⟨#[]⟩,I J 0,Z U 0 0,I J 0] 68)).alloc (K #[a,b,c,d,f] 68)).setCell ⟨g,1,U⟩ (Q U)).setCell ⟨g,2,U⟩ (.bool F)).setCell ⟨w.heap.size,0,U⟩ a).setCell ⟨w.heap.size,1,U⟩ b).setCell ⟨w.heap.size,2,U⟩ c).setCell ⟨w.heap.size,3,U⟩ d).setCell ⟨w.heap.size,4,U⟩ f) g o (Q U) F bd 0∧Turns (fun k=>k=g) w (((((((((w.alloc (K #[V ⟨#[]⟩,V ⟨#[]⟩,I J 0,Z U 0 0,I J 0] 68)).alloc (K #[a,b,c,d,f] 68)).setCell ⟨g,1,U⟩ (Q U)).setCell ⟨g,2,U⟩ (.bool F)).setCell ⟨w.heap.size,0,U⟩ a).setCell ⟨w.heap.size,1,U⟩ b).setCell ⟨w.heap.size,2,U⟩ c).setCell ⟨w.heap.size,3,U⟩ d).setCell ⟨w.heap.size,4,U⟩ f):=by
 have x:=p.lt;have q:Below w.heap.size w ((w.alloc (K #[V ⟨#[]⟩,V ⟨#[]⟩,I J 0,Z U 0 0,I J 0] 68)).alloc (K #[a,b,c,d,f] 68)):=((fI _ _).alloc (aL _) _).alloc (by simp) _;have l:((w.alloc (K #[V ⟨#[]⟩,V ⟨#[]⟩,I J 0,Z U 0 0,I J 0] 68)).alloc (K #[a,b,c,d,f] 68)).heap[w.heap.size]? = M (K #[V ⟨#[]⟩,V ⟨#[]⟩,I J 0,Z U 0 0,I J 0] 68 (0,0)):=by
  rw[(gy _ _ U).block _ (by simp) (by simp),fH]
 have m:=((p.stay q).s1 (Q U)).s2 F;have n:=(gB (((w.alloc (K #[V ⟨#[]⟩,V ⟨#[]⟩,I J 0,Z U 0 0,I J 0] 68)).alloc (K #[a,b,c,d,f] 68)).setCell ⟨g,1,U⟩ (Q U)) ⟨g,2,U⟩ w.heap.size (.bool F) (by show w.heap.size≠g;omega)).trans ((gB ((w.alloc (K #[V ⟨#[]⟩,V ⟨#[]⟩,I J 0,Z U 0 0,I J 0] 68)).alloc (K #[a,b,c,d,f] 68)) ⟨g,1,U⟩ w.heap.size (Q U) (by show w.heap.size≠g;omega)).trans l);have y:=fM _ _ 0 _ _ a n;have z:=fM _ _ 1 _ _ b y;have B:=fM _ _ 2 _ _ c z;have C:=fM _ _ 3 _ _ d B;have D:=fM _ _ 4 _ _ f C;have i:∀(W:X) (j:Nat) (v:Value),Turns (fun k=>k=w.heap.size) W (W.setCell ⟨w.heap.size,j,U⟩ v):=fun W j v=>Turns.setCell _ W _ _ rfl;have r:=(i ((((w.alloc (K #[V ⟨#[]⟩,V ⟨#[]⟩,I J 0,Z U 0 0,I J 0] 68)).alloc (K #[a,b,c,d,f] 68)).setCell ⟨g,1,U⟩ (Q U)).setCell ⟨g,2,U⟩ (.bool F)) 0 a).trans ((i _ 1 b).trans ((i _ 2 c).trans ((i _ 3 d).trans (i _ 4 f) (fun _ e _=>e)) (fun _ e _=>e)) (fun _ e _=>e)) (fun _ e _=>e);refine⟨D,m.turns r (by omega),?_⟩;have s:∀(W:X) (j:Nat) (v:Value),Turns (fun k=>k=g) W (W.setCell ⟨g,j,U⟩ v):=fun W j v=>Turns.setCell _ W _ _ rfl;refine(Turns.of_below (S:=fun k=>k=g) q).trans (((s _ 1 _).trans (s _ 2 _) (fun _ e _=>e)).mono (S':=fun k=>k=g∨k=w.heap.size) (fun k e=>A e) |>.trans (r.mono (fun k e=>R e)) (fun _ e _=>e)) (fun k e G=>?_);rcases e with e | e
 . exact e
 . omega
theorem XK (w:X)(g f:Nat)(s bd:Value)(S:Nat->Prop)(h:Rq.Hd)(i:jf w g s (Q (M ⟨f,0,U⟩)) true bd 0)(D:jF w S f h)(y:¬S g):
 Calls prog 104 #[Q (M ⟨g,0,U⟩)] w fun e w'=>∃fo gL,e=Y (.agg #[V ⟨h.method.toArray⟩,V ⟨h.target.toArray⟩,I J (h.minor:Int),Z fo h.fields.length gL,I J h.length])∧jf w' g s (Q U) F bd 0∧nD w' S fo gL h.fields.length (gT (Rq.nu h.fields))∧Turns (fun k=>k=g) w w':=by
 have G:=H9 i;obtain⟨fo,gL,t,z,H,B⟩:=D;have C:nD w S fo gL h.fields.length (gT (Rq.nu h.fields)):=⟨z.nP,fun _ a e=>B a e⟩;have L:=H9 C;have N:=H9 y
 have d:Below w.heap.size w (w.alloc (K #[V ⟨#[]⟩,V ⟨#[]⟩,I J 0,Z U 0 0,I J 0] 68)):=(fI _ _).alloc (aL _) _;have b:=(d.block f (aK.1 t).1).trans t;have c1:=(i.stay d).c1;have r0:=fJ _ f 0 _ _ _ b;have r1:=fJ _ f 1 _ _ _ b;have r2:=fJ _ f 2 _ _ _ b;have r3:=fJ _ f 3 _ _ _ b;have r4:=fJ _ f 4 _ _ _ b;have u:=i.lt;have n1:g≠w.heap.size:=by omega
 have n2:g≠w.heap.size+1:=by omega
 clear b t z H B C y u;generalize (⟨h.method.toArray⟩:av)=l at *;generalize (⟨h.target.toArray⟩:av)=m at *;generalize h.fields.length=n at *;generalize h.length=p at *;have c:Below w.heap.size w ((w.alloc (K #[V ⟨#[]⟩,V ⟨#[]⟩,I J 0,Z U 0 0,I J 0] 68)).alloc (K #[V l,V m,I J (h.minor:Int),Z fo n gL,I J p] 68)):=d.trans ((fI _ _).alloc d.size _);have p1:=(i.stay c).c1;have p2:=(i.stay c).c2;have O:=(i.stay c).fz 1;have P:=(i.stay c).fz 2;have T:=H9 c;clear i d c;go_enter func104,ntmps104;go_wp2;obtain⟨j,x,r⟩:=XJ w g s _ bd _ (V l) (V m) (I J (h.minor:Int)) (Z fo n gL) (I J p) G.o;revert j x r;generalize (((((((((w.alloc (K #[V ⟨#[]⟩,V ⟨#[]⟩,I J 0,Z U 0 0,I J 0] 68)).alloc (K #[V l,V m,I J (h.minor:Int),Z fo n gL,I J p] 68)).setCell ⟨g,1,U⟩ (Q U)).setCell ⟨g,2,U⟩ (.bool F)).setCell ⟨w.heap.size,0,U⟩ (V l)).setCell ⟨w.heap.size,1,U⟩ (V m)).setCell ⟨w.heap.size,2,U⟩ (I J (h.minor:Int))).setCell ⟨w.heap.size,3,U⟩ (Z fo n gL)).setCell ⟨w.heap.size,4,U⟩ (I J p))=q;intro j x r;have W:=fJ q w.heap.size 0 _ _ _ j;have z1:=fJ q w.heap.size 1 _ _ _ j;have z2:=fJ q w.heap.size 2 _ _ _ j;have z3:=fJ q w.heap.size 3 _ _ _ j;have z4:=fJ q w.heap.size 4 _ _ _ j;refine gq (v:=.agg #[V l,V m,I J (h.minor:Int),Z fo n gL,I J p]) (by simp[results,results104,go_sem,W,z1,z2,z3,z4]) rfl ⟨fo,gL,rfl,x,?_,r⟩;exact L.o.turns r (fun k hk e=>N.o (e▸hk))
theorem jf.failed {w:X}{g:Nat}{b d bd:Value}{f:Bool}{code:Int}(h:jf w g b d f bd code)(c:Int):
 jf (((((w.setCell ⟨g,0,U⟩ (Q U)).setCell ⟨g,1,U⟩ (Q U)).setCell ⟨g,2,U⟩ (.bool F)).setCell ⟨g,3,U⟩ .nilIface).setCell ⟨g,4,U⟩ (I J c)) g (Q U) (Q U) F .nilIface c ∧
 Turns (fun k=>k=g) w (((((w.setCell ⟨g,0,U⟩ (Q U)).setCell ⟨g,1,U⟩ (Q U)).setCell ⟨g,2,U⟩ (.bool F)).setCell ⟨g,3,U⟩ .nilIface).setCell ⟨g,4,U⟩ (I J c)):=by
 have a:∀(W:X) (j:Nat) (v:Value),Turns (fun k=>k=g) W (W.setCell ⟨g,j,U⟩ v):=fun W j v=>Turns.setCell _ W _ _ rfl;exact⟨((((h.s0 _).s1 _).s2 _).s3 _).s4 _,(a _ 0 _).trans ((a _ 1 _).trans ((a _ 2 _).trans ((a _ 3 _).trans (a _ 4 _) (fun _ e _=>e)) (fun _ e _=>e)) (fun _ e _=>e)) (fun _ e _=>e)⟩
inductive Z5 (w:X)(g:Nat)(So:Nat->Prop)(es:List Rq.Ev)(c:Nat)(e:Ending)(w':X):Prop
 | mk (ao:aj) (cap n:Nat) (he:e=Y (Z ao n cap)) (hn:n=(Rq.join (es++[.fail c])).length) (hO:nV w' (gM So w) ao cap (Rq.join (es++[.fail c]))) (hP:jf w' g (Q U) (Q U) F .nilIface (c:Int)) (hT:Turns (fun k=>So k∨k=g) w w')
theorem Fb (w:X)(g:Nat)(u v bd:Value)(x:Bool)(code:Int)(So:Nat->Prop)(ao:aj)(cap n c:Nat)(es:List Rq.Ev)(a:jf w g u v x bd code)(h:nV w So ao cap es)(i:¬So g)(m:es.length=n)(y:n<=100000)(p:Rq.Joined es)(q:Rq.Full es)(r:Rq.jD es<=100000):
 Calls prog 103 #[Q (M ⟨g,0,U⟩),Z ao n cap,I J (c:Int)] w fun e w'=>Z5 w g So es c e w':=by
 obtain⟨s,j⟩:=a.failed (c:Int);have l:=H9 s;have z:=H9 j
 have B:=H9 (XH _ So ao cap n c es (h.turns j (fun k C e=>i (e▸C))) m y p q r);have D:=H9 i;have P:=a.c0;have S:=a.c1;have T:=a.c2;have W:=a.c3;have c4:=a.c4
 have f0:=a.fz 0;have f1:=a.fz 1;have f2:=a.fz 2;have f3:=a.fz 3;have f4:=a.fz 4
 clear a h i m p q r s j;go_enter func103,ntmps103;go_wp2_with fail
 refine B.o.mono ?_;rintro e w1 ⟨G,H,L,rfl,b,t,d⟩;have N:=H9 b;have O:=H9 t;have f:=H9 d
 clear b t d;go_wp2;go_ret;refine .mk G H L rfl N.o (O.o.mono (fun k _ e=>?_)) (l.o.turns f.o D.o) ?_
 . rcases e with e | e | e
   . exact A e
   . exact e.elim
   . exact R (by simpa using e)
 . exact(z.o.mono (fun k e=>R e)).trans (f.o.mono (fun k e=>A e)) (fun _ e _=>e)
theorem MB {w:X}{a left:Nat}{v:Value}{c:UInt8}(d:a<w.heap.size)(f:(w.setCell ⟨a,0,U⟩ v).heap[a]? = M (K #[I J (left:Int)] 208 (0,0))):
 ((w.setCell ⟨a,0,U⟩ v).alloc (K #[I .u8 (c.toNat:Int)] 5)).drew.heap[a]? = M (K #[I J (left:Int)] 208 (0,0))∧iD ((w.setCell ⟨a,0,U⟩ v).alloc (K #[I .u8 (c.toNat:Int)] 5)).drew 0 5 (M ⟨w.heap.size,0,U⟩) 1 [c]∧Turns (fun k=>k=a) w ((w.setCell ⟨a,0,U⟩ v).alloc (K #[I .u8 (c.toNat:Int)] 5)).drew:=by
 have g:(w.setCell ⟨a,0,U⟩ v).heap.size=w.heap.size:=by simp
 have b:Below (w.setCell ⟨a,0,U⟩ v).heap.size (w.setCell ⟨a,0,U⟩ v) ((w.setCell ⟨a,0,U⟩ v).alloc (K #[I .u8 (c.toNat:Int)] 5)).drew:=((fI _ _).alloc (aL _) _).trans ⟨rfl,rfl,rfl,aL _,fun _ _=>rfl⟩;refine⟨(b.block a (by omega)).trans f,?_,(Turns.setCell (fun k=>k=a) w _ _ rfl).trans (Turns.of_below b) (fun _ e _=>e)⟩;have i:iD ((w.setCell ⟨a,0,U⟩ v).alloc (K #[I .u8 (c.toNat:Int)] 5)) 0 5 (M ⟨w.heap.size,0,U⟩) 1 [c]:=by
  rw[<-g];exact gD _ _ 1 (ay _) (by decide) rfl
 exact i.stay (gP _ _)
theorem MC (w:X)(a left:Nat)(c:UInt8)(f:w.heap[a]? = M (K #[I J (left:Int)] 208 (0,0)))(l:0<left)(m:left<=4000):
 Calls prog 343 #[Q (M ⟨a,0,U⟩),I .u8 c.toNat] w fun e w'=>e=Y (.tuple #[Z (M ⟨w.heap.size,0,U⟩) 1 1,.bool (decide (left<=1)),I J 0])∧w'.heap[a]? = M (K #[I J ((left-1:Nat):Int)] 208 (0,0))∧iD w' 0 5 (M ⟨w.heap.size,0,U⟩) 1 [c]∧Turns (fun k=>k=a) w w':=by
 have n:=H9 f;have g:a<w.heap.size:=(aK.1 f).1;have q:w.cell? ⟨a,0,U⟩=M (I J (left:Int)):=fJ w a 0 _ _ _ f;have r:w.frozen? ⟨a,0,U⟩=F:=fK w a 0 _ _ f;have s:((left:Int)-1==0)=decide (left<=1):=by rw[aG,aS,bQ];omega
 have d:=fM w a 0 _ _ (I J ((left:Int)-1)) f;have b:(w.setCell ⟨a,0,U⟩ (I J ((left:Int)-1))).heap[a]? = M (K #[I J ((left-1:Nat):Int)] 208 (0,0)):=by
  rw[d];have:((left-1:Nat):Int)=(left:Int)-1:=by omega
  rw[this];rfl
 have i:=H9 b;have j:(w.setCell ⟨a,0,U⟩ (I J ((left:Int)-1))).cell? ⟨a,0,U⟩=M (I J ((left:Int)-1)):=fJ _ a 0 _ _ _ d;have t:((w.setCell ⟨a,0,U⟩ (I J ((left:Int)-1))).alloc (K #[I .u8 (c.toNat:Int)] 5)).cell? ⟨a,0,U⟩=M (I J ((left:Int)-1)):=by
  rw[((fI _ _).alloc (aL _) _).cell (p:=⟨a,0,U⟩) (by simpa using g)];exact j
 clear f d b;generalize decide (left<=1)=u at *;go_enter func343,ntmps343;go_wp2;go_region
 all_goals (go_wp2;go_ret3;exact⟨rfl,MB g i.o⟩)
theorem JQ (w:X)(k:Nat)(a:0<k):
 Calls prog 106 #[I J (k:Int)] w fun e w'=>e=Y (.iface 206 (Q (M ⟨w.heap.size,0,U⟩)))∧w'.heap[w.heap.size]? = M (K #[I J (k:Int)] 208 (0,0))∧Below w.heap.size w w':=by
 have b:((k:Int)==-1)=F:=aR.2 (by omega);go_enter func106,ntmps106;go_wp2;go_ret;exact⟨rfl,fH w _,(fI _ _).alloc (aL _) _⟩
theorem Ga (w:X):
 Calls prog 106 #[I J (-1)] w fun e w'=>∃g,e=Y (.iface 204 (Q (M ⟨g,0,U⟩)))∧pU w' (fun k=>w.heap.size<=k) g Ck.start∧Below w.heap.size w w':=by
 go_enter func106,ntmps106;go_wp2_with fail
 refine(FV w).mono ?_;rintro e f ⟨g,rfl,a,b⟩;have c:=H9 a;have d:=H9 b
 clear a b;go_wp2;go_ret;exact⟨g,rfl,c.o,d.o⟩
inductive nJ (w:X)(S So:Nat->Prop)(g:Nat)(s:Rq.St)(c:UInt8)(es:List Rq.Ev)(e:Ending)(w':X):Prop
 | mk (ao:aj) (cap n:Nat) (S' So':Nat->Prop) (he:e=Y (Z ao n cap)) (hn:n=(Rq.join (es++(Rq.next s c).2)).length) (hR:jH w' S' g (Rq.next s c).1) (hO:nV w' So' ao cap (Rq.join (es++(Rq.next s c).2)))
  (hd:∀k,S' k->¬So' k) (hS:∀k,S' k->S k∨w.heap.size<=k) (hSo:∀k,So' k->S k∨So k∨w.heap.size<=k) (hT:Turns (fun k=>S k∨So k) w w')
theorem added {es:List Rq.Ev}{e:Rq.Ev}{n m:Nat}(f:es.length=n)(g:m=(Rq.join (es++[e])).length)(b:∀a,e=.body a->a≠[]∧a.length<=1)(d:Rq.Full es):
 m<=n+1∧Rq.jD (Rq.join (es++[e]))<=Rq.jD es+1∧Rq.Full (Rq.join (es++[e]))∧Rq.Joined (Rq.join (es++[e])):=by
 have c:=Rq.join_length (es++[e]);rw[aV] at c;refine⟨by simp at c;omega,?_,Rq.qW _ (Rq.BM d (fun a ha=>?_)),Rq.mH _⟩
 . rw[Rq.qV,Rq.mM];cases e with
   | body a=>have:=(b a rfl).2;simp only[Rq.jD];omega
   | head _=>simp[Rq.jD]
   | fin=>simp[Rq.jD]
   | fail _=>simp[Rq.jD]
 . simp at ha;exact(b a ha.symm).1
theorem ze {w a b:X}{c B C:Nat->Prop}{d:Nat}{l:Ln.St}(h:iy w C d l)(e:Turns c w a)(f:Turns B a b)(g:∀k,C k->¬c k)(i:∀k,C k->¬B k):iy b C d l:=(h.turns e g).turns f i
theorem Fe (w:X)(S So:Nat->Prop)(g:Nat)(s:Rq.St)(c:UInt8)(ao:aj)(cap n:Nat)(es:List Rq.Ev)(h:jH w S g s)(hG:Rq.Good s)(hp:s.ph=2)(hO:nV w So ao cap es)(hd:∀k,S k->¬So k)(q:es.length=n)(P:n<=90000)(x:Rq.Joined es)(r:Rq.Full es)(O:Rq.jD es<=90000):
 Calls prog 64 #[Q (M ⟨g,0,U⟩),Z ao n cap,I .u8 c.toNat] w fun e w'=>nJ w S So g s c es e w':=by
 obtain⟨l,lp,hpp,bd,code,m,hI⟩:=h;cases hI with
 | dead c hc h4=>omega
 | Jo W h0 L=>omega
 | K5 W gh D h1 L H=>omega
 | at3 W p D h3 L B=>omega
 | at2 W p h2 L i B =>
   obtain⟨l0,l1⟩:=hG.left hp;have c3:=m.c3;have hgb:p<w.heap.size:=(aK.1 B).1;have Ah:=m.lt;have HC:=H9 (MC w p s.left c B l0 l1);have hm:∀w,(method 456 206 (Q (M ⟨p,0,U⟩)) "Feed").run prog w=.ok (343,Q (M ⟨p,0,U⟩)) w:=fun _=>by kernel_rfl
   have HX:Hid (jH w S g s∧jf w g (Q (M ⟨W,0,U⟩)) (Q U) F (.iface 206 (Q (M ⟨p,0,U⟩))) 0∧iy w (fun k=>((S k∧k≠g)∧k≠p)∧k<w.heap.size) W s.ln∧(S p∧p≠g)∧(∀k,S k->¬So k)∧S g) :=
    ⟨⟨l,_,_,_,_,m,.at2 W p h2 L i B⟩,m,L.mono (fun k hk e=>⟨e,hk⟩),i,hd,l⟩
   have U0:=H9 (hO.mono (S':=fun k=>So k∧k<w.heap.size) (fun k hk e=>⟨e,hk⟩));have HE:=H9 (And.intro q (And.intro P (And.intro x (And.intro r O))));have HLl:=H9 (And.intro l0 l1);have aa9:s.ph≠4:=by omega
   have HN:Hid (Rq.next s c=if s.left<=1 then ({ s with ph:=0,left:=0 },[.body [c],.fin]) else ({ s with left:=s.left-1 },[.body [c]])):=by
    unfold Hid Rq.next;rw[if_neg aa9,if_pos hp]
   clear hG x r O hO hd L i B m l q l0 l1 aa9 h2;by_cases t:s.left<=1
   . rw[aH t] at HC;have HV:=H9 t;clear t;go_enter func64,ntmps64;go_wp2_with (go_at_call 343;refine HC.o.mono ?_;rintro e w1 ⟨rfl,y,qy,z⟩;have HB1:=H9 y;have CJ:=H9 qy;have d:=H9 z;clear y qy z)
     obtain⟨q,P,x,r,O⟩:=HE.o;obtain⟨_,m,T,i,hd,l⟩:=HX.o;have f:gY w1 (fun k=>k=w.heap.size) 5 (M ⟨w.heap.size,0,U⟩) 1 [c]:=A ⟨by simp,CJ.o,fun a e=>by injection e with e;subst e;rfl⟩;have C:=U0.o.turns d.o (fun k e b=>hd p i.1 (b▸e.1));refine(Fa w1 (fun k=>So k∧k<w.heap.size) (fun k=>k=w.heap.size) ao _ cap n 1 1 [c] es C f (by simp) rfl (by omega) (fun k e b=>by omega) q (by omega) x r (by omega)).mono ?_;rintro e w2 ⟨jw,G,n2,rfl,u,N,jU⟩;have hadd:=added q u (fun a e=>by injection e with e;subst e;exact⟨by simp,by simp⟩) r;have v:jf w2 g _ _ _ _ _:=(m.turns d.o (fun e=>i.2 e.symm)).turns jU (fun e=>hd g l e.1);have p3:=v.c3;have pf3:=v.fz 3;have uy:=H9 v;have BO:=H9 N;have j:=H9 jU;have Tt:=H9 hadd;have MX:=H9 u
     clear q P x r O m T i hd l f C u N jU hadd v c3;go_wp2_with fail
     obtain⟨q,P,x,r,O⟩:=HE.o;obtain⟨_,m,T,i,hd,l⟩:=HX.o;obtain⟨a1,a2,a3,a4⟩:=Tt.o;have hs1:=d.o.size;have hs2:=j.o.size;have CP:=Turns.setCell (fun k=>k=g) w2 ⟨g,3,U⟩ .nilIface rfl;have hE3:=BO.o.turns CP (fun k e b=>by
      subst b;rcases e with e | e | e
      . exact hd k l e.1
      . omega
      . omega)
     refine(JO _ _ jw G n2 _ hE3 MX.o.symm (by omega) a4 a3 (by omega)).mono ?_;rintro e w4 ⟨xR,cap4,n4,rfl,J9,hO4,ET⟩;have HN4:=H9 J9;have wu:=H9 hO4;have Zd:=H9 ET
     clear q P x r O m T i hd l CP hE3 J9 hO4 ET a1 a2 a3 a4 hs1 hs2;go_wp2;go_ret;obtain⟨q,P,x,r,O⟩:=HE.o;obtain⟨_,m,T,i,hd,l⟩:=HX.o;have hs1:=d.o.size;have hs2:=j.o.size;have hz3:(w2.setCell ⟨g,3,U⟩ .nilIface).heap.size=w2.heap.size:=by simp
     have hN:=HN.o;rw[if_pos HV.o] at hN;have hj2:Rq.join (Rq.join (es++[.body [c]])++[.fin])=Rq.join (es++(Rq.next s c).2):=by rw[hN];exact Rq.KJ es [.body [c]] [.fin]
     have CP:=Turns.setCell (fun k=>k=g) w2 ⟨g,3,U⟩ .nilIface rfl;have hP4:=(uy.o.s3 .nilIface).turns Zd.o (fun e=>by
      rcases e with e | e | e
      . exact hd g l e.1
      . omega
      . omega)
     have hL4:=((ze T d.o j.o (fun k e=>e.1.2) (fun k e b=>hd k e.1.1.1 b.1)).turns CP (fun k e=>e.1.1.2)).turns Zd.o (fun k e b=>by
      rcases b with b | b | b
      . exact hd k e.1.1.1 b.1
      . have:=e.2;omega
      . have:=e.2;omega)
     refine .mk xR cap4 n4 (fun k=>S k∧k<w.heap.size) _ rfl (by rw[<-hj2];exact HN4.o) ?_ (by rw[<-hj2];exact wu.o) ?_ (fun k e=>A e.1) ?_ ?_
     . rw[hN];exact⟨⟨l,Ah⟩,_,_,_,_,hP4,.Jo W rfl (hL4.mono (fun k _ e=>⟨⟨e.1.1.1,e.2⟩,e.1.1.2⟩))⟩
     . intro k e b;rcases b with (b | b | b) | b | b
       . exact hd k e.1 b.1
       . omega
       . omega
       . exact b
       . omega
     . intro k e;rcases e with (e | e | e) | e | e
       . exact R (A e.1)
       . exact R (R (by omega))
       . exact R (R (by omega))
       . exact e.elim
       . exact R (R (by omega))
     . refine(d.o.mono (fun k e=>by rw[e];exact A i.1)).trans ((j.o.mono (S':=fun k=>(S k∨So k)∨w.heap.size<=k) (fun k e=>A (R e.1))).trans ((CP.mono (fun k e=>by rw[e];exact A (A l))).trans (Zd.o.mono (fun k e=>?_)) (fun _ e _=>e)) (fun _ e _=>e)) (fun k e hk=>?_)
       . rcases e with e | e | e
         . exact A (R e.1)
         . exact R (by omega)
         . exact R (by omega)
       . rcases e with e | e
         . exact e
         . omega
   . rw[aI t] at HC;have HV:=H9 t;clear t;go_enter func64,ntmps64;go_wp2_with (go_at_call 343;refine HC.o.mono ?_;rintro e w1 ⟨rfl,y,qy,z⟩;have HB1:=H9 y;have CJ:=H9 qy;have d:=H9 z;clear y qy z)
     obtain⟨q,P,x,r,O⟩:=HE.o;obtain⟨_,m,T,i,hd,l⟩:=HX.o;have f:gY w1 (fun k=>k=w.heap.size) 5 (M ⟨w.heap.size,0,U⟩) 1 [c]:=A ⟨by simp,CJ.o,fun a e=>by injection e with e;subst e;rfl⟩;have C:=U0.o.turns d.o (fun k e b=>hd p i.1 (b▸e.1));refine(Fa w1 (fun k=>So k∧k<w.heap.size) (fun k=>k=w.heap.size) ao _ cap n 1 1 [c] es C f (by simp) rfl (by omega) (fun k e b=>by omega) q (by omega) x r (by omega)).mono ?_;rintro e w2 ⟨jw,G,n2,rfl,u,N,jU⟩;have BO:=H9 N;have j:=H9 jU;have MX:=H9 u
     clear q P x r O m T i hd l f C u N jU c3;go_wp2;go_ret;obtain⟨q,P,x,r,O⟩:=HE.o;obtain⟨_,m,T,i,hd,l⟩:=HX.o;have hs1:=d.o.size;have hN:=HN.o;rw[if_neg HV.o] at hN;have v:=(m.turns d.o (fun e=>i.2 e.symm)).turns j.o (fun e=>hd g l e.1);have hB2:=j.o.row HB1.o (fun e=>hd p i.1 e.1);have hL2:=ze T d.o j.o (fun k e=>e.1.2) (fun k e b=>hd k e.1.1.1 b.1);refine .mk jw G n2 (fun k=>S k∧k<w.heap.size) _ rfl (by rw[hN];exact MX.o) ?_ (by rw[hN];exact BO.o) ?_ (fun k e=>A e.1) ?_ ?_
     . rw[hN];exact⟨⟨l,Ah⟩,_,_,_,_,v,.at2 W p hp (hL2.mono (fun k _ e=>⟨⟨⟨e.1.1.1,e.2⟩,e.1.1.2⟩,e.1.2⟩)) ⟨⟨i.1,hgb⟩,i.2⟩ hB2⟩
     . intro k e b;rcases b with b | b | b
       . exact hd k e.1 b.1
       . omega
       . omega
     . intro k e;rcases e with e | e | e
       . exact R (A e.1)
       . exact R (R (by omega))
       . exact R (R (by omega))
     . exact(d.o.mono (fun k e=>by rw[e];exact A i.1)).trans (j.o.mono (fun k e=>R e.1)) (fun _ e _=>e)
theorem Gb (w:X)(S So:Nat->Prop)(g:Nat)(s:Rq.St)(c:UInt8)(ao:aj)(cap n:Nat)(es:List Rq.Ev)(h:jH w S g s)(hG:Rq.Good s)(hp:s.ph=3)(l:s.ck.ph=1)(hO:nV w So ao cap es)(hd:∀k,S k->¬So k)(q:es.length=n)(W:n<=90000)(r:Rq.Joined es)(t:Rq.Full es)(x:Rq.jD es<=90000):
 Calls prog 64 #[Q (M ⟨g,0,U⟩),Z ao n cap,I .u8 c.toNat] w fun e w'=>nJ w S So g s c es e w':=by
 obtain⟨m,lp,hpp,bd,code,j,hI⟩:=h;cases hI with
 | dead c hc h4=>omega
 | Jo u h0 L=>omega
 | K5 u gh D h1 L H=>omega
 | at2 u v h2 L hb B=>omega
 | at3 u v D h3 L B =>
   obtain⟨kg,y,k4⟩:=hG.ck hp;have c3:=j.c3;have Ah:=j.lt;have HC:=H9 (Pj w (fun k=>((S k∧k≠g)∧D k)∧k<w.heap.size) v s.ck c (B.mono (fun k z e=>⟨e,z⟩)) kg y l);have hm:∀w,(method 456 204 (Q (M ⟨v,0,U⟩)) "Feed").run prog w=.ok (338,Q (M ⟨v,0,U⟩)) w:=fun _=>by kernel_rfl
   have p:Ck.next s.ck c={ s.ck with left:=s.ck.left-1,ph:=if s.ck.left<=1 then 2 else 1 }:=by unfold Ck.next;rw[if_neg (fun e=>e y),if_neg (by omega),if_pos l]
   have HN:Hid (Rq.next s c=({ s with ck:=Ck.next s.ck c },[.body [c]])):=by
    unfold Hid Rq.next;rw[if_neg (by omega),if_neg (by omega),if_pos hp,if_neg (by rw[p];exact fun e=>e y),if_neg (by rw[p];show ¬(if s.ck.left<=1 then 2 else 1)=4;split <;> omega)];have ho:Ck.out s.ck c=[c]:=by unfold Ck.out;rw[if_pos ⟨y,l⟩]
    rw[ho];unfold Rq.some_;rw[if_neg (by simp)]
   have HX:Hid (jf w g (Q (M ⟨u,0,U⟩)) (Q U) F (.iface 204 (Q (M ⟨v,0,U⟩))) 0∧iy w (fun k=>((S k∧k≠g)∧¬D k)∧k<w.heap.size) u s.ln∧(∀k,S k->¬So k)∧S g) :=
    ⟨j,L.mono (fun k z e=>⟨e,z⟩),hd,m⟩
   have U0:=H9 (hO.mono (S':=fun k=>So k∧k<w.heap.size) (fun k z e=>⟨e,z⟩));have HE:=H9 (And.intro q (And.intro W (And.intro r (And.intro t x))));clear hG r t x hO hd L B j m q kg y k4 p h3;go_enter func64,ntmps64;go_wp2_with (go_at_call 338;refine HC.o.mono ?_;rintro e w1 ⟨rfl,C,qy,G⟩;have HB1:=H9 C;have CJ:=H9 qy;have d:=H9 G;clear C qy G)
   obtain⟨q,W,r,t,x⟩:=HE.o;obtain⟨j,hL,hd,m⟩:=HX.o;have f:gY w1 (fun k=>k=w.heap.size) 5 (M ⟨w.heap.size,0,U⟩) 1 [c]:=A ⟨by simp,CJ.o,fun a e=>by injection e with e;subst e;rfl⟩;have N:=U0.o.turns d.o (fun k e b=>hd k b.1.1.1 e.1);refine(Fa w1 (fun k=>So k∧k<w.heap.size) (fun k=>k=w.heap.size) ao _ cap n 1 1 [c] es N f (by simp) rfl (by omega) (fun k e b=>by omega) q (by omega) r t (by omega)).mono ?_;rintro e w2 ⟨jw,O,n2,rfl,P,T,jU⟩;have BO:=H9 T;have i:=H9 jU;have MX:=H9 P
   clear q W r t x j hL hd m f N P T jU c3;go_wp2;go_ret;obtain⟨q,W,r,t,x⟩:=HE.o;obtain⟨j,hL,hd,m⟩:=HX.o;have hs1:=d.o.size;have hN:=HN.o;have hP2:=(j.turns d.o (fun e=>e.1.1.2 rfl)).turns i.o (fun e=>hd g m e.1);have hL2:=ze hL d.o i.o (fun k e b=>e.1.2 b.1.2) (fun k e b=>hd k e.1.1.1 b.1);have hB2:=(HB1.o.turns i.o (fun k e b=>hd k e.1.1.1 b.1));refine .mk jw O n2 (fun k=>S k∧k<w.heap.size) _ rfl (by rw[hN];exact MX.o) ?_ (by rw[hN];exact BO.o) ?_ (fun k e=>A e.1) ?_ ?_
   . rw[hN];exact⟨⟨m,Ah⟩,_,_,_,_,hP2,.at3 u v D hp (hL2.mono (fun k _ e=>⟨⟨⟨e.1.1.1,e.2⟩,e.1.1.2⟩,e.1.2⟩)) (hB2.mono (fun k _ e=>⟨⟨⟨e.1.1.1,e.2⟩,e.1.1.2⟩,e.1.2⟩))⟩
   . intro k e b;rcases b with b | b | b
     . exact hd k e.1 b.1
     . omega
     . omega
   . intro k e;rcases e with e | e | e
     . exact R (A e.1)
     . exact R (R (by omega))
     . exact R (R (by omega))
   . exact(d.o.mono (fun k e=>A e.1.1.1)).trans (i.o.mono (fun k e=>R e.1)) (fun _ e _=>e)
theorem Gd (w:X)(S So:Nat->Prop)(g:Nat)(s:Rq.St)(c:UInt8)(ao:aj)(cap n:Nat)(es:List Rq.Ev)(h:jH w S g s)(hG:Rq.Good s)(hp:s.ph=3)(hk1:s.ck.ph≠1)(hO:nV w So ao cap es)(hd:∀k,S k->¬So k)(m:es.length=n)(O:n<=90000)(p:Rq.Joined es)(t:Rq.Full es)(z:Rq.jD es<=90000):
 Calls prog 64 #[Q (M ⟨g,0,U⟩),Z ao n cap,I .u8 c.toNat] w fun e w'=>nJ w S So g s c es e w':=by
 obtain⟨i,lp,hpp,bd,code,j,hI⟩:=h;cases hI with
 | dead c hc C=>omega
 | Jo G h0 L=>omega
 | K5 G gh D h1 L H=>omega
 | at2 G x h2 L hb B=>omega
 | at3 G x D h3 L B =>
   obtain⟨kg,k0,k4⟩:=hG.ck hp;have c3:=j.c3;have Ah:=j.lt;have hC:=Ea w (fun k=>((S k∧k≠g)∧D k)∧k<w.heap.size) x s.ck c (B.mono (fun k hk e=>⟨e,hk⟩)) kg;have ho:Ck.out s.ck c=[]:=by unfold Ck.out;rw[if_neg (fun e=>hk1 e.2)]
   have hov:Ck.over s.ck c=decide ((Ck.next s.ck c).code=0∧(Ck.next s.ck c).ph=4):=by unfold Ck.over;rw[decide_eq_decide];exact⟨fun e=>⟨e.2.2.1,e.2.2.2⟩,fun e=>⟨k0,k4,e.1,e.2⟩⟩
   have hC2:Calls prog 338 #[Q (M ⟨x,0,U⟩),I .u8 c.toNat] w fun e w'=>∃P T,e=Y (.tuple #[Z P 0 T,.bool (decide ((Ck.next s.ck c).code=0∧(Ck.next s.ck c).ph=4)),I J ((Ck.next s.ck c).code:Int)])∧pU w' (gM (fun k=>((S k∧k≠g)∧D k)∧k<w.heap.size) w) x (Ck.next s.ck c)∧Turns (fun k=>((S k∧k≠g)∧D k)∧k<w.heap.size) w w':=by
    refine hC.mono ?_;rintro e w' ⟨P,T,he,_,hC',hT'⟩;refine⟨P,T,?_,hC',hT'⟩;rw[he,ho,hov];rfl
   have hm:∀w,(method 456 204 (Q (M ⟨x,0,U⟩)) "Feed").run prog w=.ok (338,Q (M ⟨x,0,U⟩)) w:=fun _=>by kernel_rfl
   have q:Rq.next s c=if (Ck.next s.ck c).code≠0 then (Rq.dead s,[.fail (Ck.next s.ck c).code]) else if (Ck.next s.ck c).ph=4 then ({ s with ph:=0 },[.fin]) else ({ s with ck:=Ck.next s.ck c },[]):=by
    unfold Rq.next;rw[if_neg (by omega),if_neg (by omega),if_pos hp,ho];rfl
   have W:Hid (jf w g (Q (M ⟨G,0,U⟩)) (Q U) F (.iface 204 (Q (M ⟨x,0,U⟩))) 0∧iy w (fun k=>((S k∧k≠g)∧¬D k)∧k<w.heap.size) G s.ln∧(∀k,S k->¬So k)∧S g) :=
    ⟨j,L.mono (fun k hk e=>⟨e,hk⟩),hd,i⟩
   have U0:=H9 (hO.mono (S':=fun k=>So k∧k<w.heap.size) (fun k hk e=>⟨e,hk⟩));have HE:=H9 (And.intro m (And.intro O (And.intro p (And.intro t z))));have HC:=H9 hC2;clear hG p t z hO hd L B j i m kg k0 k4 h3 hC hC2 ho hov hk1;generalize Ck.next s.ck c=u at *;by_cases d:u.code=0
   . rw[if_neg (fun e=>e d)] at q;by_cases C:u.ph=4
     . rw[if_pos C] at q;rw[aH ⟨d,C⟩,d] at HC;have r:=H9 q;clear q d C;go_enter func64,ntmps64;go_wp2_with (go_at_call 338;refine HC.o.mono ?_;rintro e N ⟨P,T,rfl,l,f⟩;have v:=W.o.1.turns f (fun e=>e.1.1.2 rfl);have p3:=v.c3;have pf3:=v.fz 3;have Z6:=H9 v;have b:=H9 f;clear l f v)
       obtain⟨m,O,p,t,z⟩:=HE.o;obtain⟨j,y,hd,i⟩:=W.o;have CP:=Turns.setCell (fun k=>k=g) N ⟨g,3,U⟩ .nilIface rfl;have hE1:=(U0.o.turns b.o (fun k e a=>hd k a.1.1.1 e.1)).turns CP (fun k e a=>hd g i (a▸e.1));refine(JO _ _ ao cap n _ hE1 m (by omega) p t (by omega)).mono ?_;rintro e w4 ⟨xR,cap4,n4,rfl,J9,hO4,ET⟩;have HN4:=H9 J9;have wu:=H9 hO4;have Zd:=H9 ET
       clear m O p t z j y hd i CP hE1 J9 hO4 ET;go_wp2;go_ret;obtain⟨j,y,hd,i⟩:=W.o;have hs1:=b.o.size;have hz3:(N.setCell ⟨g,3,U⟩ .nilIface).heap.size=N.heap.size:=by simp
       have CP:=Turns.setCell (fun k=>k=g) N ⟨g,3,U⟩ .nilIface rfl;have hP4:=(Z6.o.s3 .nilIface).turns Zd.o (fun e=>hd g i e.1);have hL4:=((y.turns b.o (fun k e a=>e.1.2 a.1.2)).turns CP (fun k e=>e.1.1.2)).turns Zd.o (fun k e a=>hd k e.1.1.1 a.1);refine .mk xR cap4 n4 (fun k=>S k∧k<w.heap.size) _ rfl (by rw[r.o];exact HN4.o) ?_ (by rw[r.o];exact wu.o) ?_ (fun k e=>A e.1) ?_ ?_
       . rw[r.o];exact⟨⟨i,Ah⟩,_,_,_,_,hP4,.Jo G rfl (hL4.mono (fun k _ e=>⟨⟨e.1.1.1,e.2⟩,e.1.1.2⟩))⟩
       . intro k e a;rcases a with a | a | a
         . exact hd k e.1 a.1
         . exact a
         . omega
       . intro k e;rcases e with e | e | e
         . exact R (A e.1)
         . exact e.elim
         . exact R (R (by omega))
       . exact(b.o.mono (fun k e=>A e.1.1.1)).trans ((CP.mono (fun k e=>by rw[e];exact A i)).trans (Zd.o.mono (fun k e=>R e.1)) (fun _ e _=>e)) (fun _ e _=>e)
     . rw[if_neg C] at q;rw[aI (fun e=>C e.2),d] at HC;have r:=H9 q;clear q d C;go_enter func64,ntmps64;go_wp2_with (go_at_call 338;refine HC.o.mono ?_;rintro e N ⟨P,T,rfl,l,f⟩;have HB1:=H9 l;have b:=H9 f;clear l f)
       go_ret;obtain⟨m,O,p,t,z⟩:=HE.o;obtain⟨j,y,hd,i⟩:=W.o;have hs1:=b.o.size;have hej:Rq.join (es++(Rq.next s c).2)=es:=by rw[r.o,bV];exact Rq.jk es p
       refine .mk ao cap n (fun k=>(S k∧k<w.heap.size)∨w.heap.size<=k) (fun k=>So k∧k<w.heap.size) rfl (by rw[hej];exact m.symm) ?_ (by rw[hej];exact U0.o.turns b.o (fun k e a=>hd k a.1.1.1 e.1)) ?_ ?_ (fun k e=>R (A e.1)) (b.o.mono (fun k e=>A e.1.1.1))
       . rw[r.o];refine⟨A ⟨i,Ah⟩,_,_,_,_,j.turns b.o (fun e=>e.1.1.2 rfl),.at3 G x (fun k=>D k∨w.heap.size<=k) hp ((y.turns b.o (fun k e a=>e.1.2 a.1.2)).mono (fun k _ e=>⟨⟨A ⟨e.1.1.1,e.2⟩,e.1.1.2⟩,fun a=>?_⟩)) (HB1.o.mono (fun k _ e=>?_))⟩
         . rcases a with a | a
           . exact e.1.2 a
           . have:=e.2;omega
         . rcases e with e | e
           . exact⟨⟨A ⟨e.1.1.1,e.2⟩,e.1.1.2⟩,A e.1.2⟩
           . exact⟨⟨R e,by omega⟩,R e⟩
       . intro k e a;rcases e with e | e
         . exact hd k e.1 a.1
         . omega
       . intro k e;rcases e with e | e
         . exact A e.1
         . exact R e
   . rw[if_pos d] at q;rw[aI (fun e=>d e.1)] at HC;have r:=H9 q;have tc:((u.code:Int) != 0)=true:=by rw[cO];omega
     have M5:=H9 d;clear q d;generalize u.code=cc at *;go_enter func64,ntmps64;go_wp2_with (go_at_call 338;refine HC.o.mono ?_;rintro e N ⟨P,T,rfl,l,f⟩;have b:=H9 f;clear l f)
     obtain⟨m,O,p,t,z⟩:=HE.o;obtain⟨j,y,hd,i⟩:=W.o;refine(Fb N g _ _ _ _ _ (fun k=>So k∧k<w.heap.size) ao cap n cc es (j.turns b.o (fun e=>e.1.1.2 rfl)) (U0.o.turns b.o (fun k e a=>hd k a.1.1.1 e.1)) (fun e=>hd g i e.1) m (by omega) p t (by omega)).mono ?_;rintro e w2 ⟨jw,cap2,n2,rfl,hn2,hO2,hP2,jU⟩;have MX:=H9 hn2;have BO:=H9 hO2;have uy:=H9 hP2;have HT2:=H9 jU
     clear m O p t z j y hd i hn2 hO2 hP2 jU;go_wp2;go_ret;obtain⟨j,y,hd,i⟩:=W.o;have hs1:=b.o.size;refine .mk jw cap2 n2 (fun k=>k=g) _ rfl (by rw[r.o];exact MX.o) ?_ (by rw[r.o];exact BO.o) ?_ (fun k e=>by rw[e];exact A i) ?_ ?_
     . rw[r.o];exact⟨rfl,_,_,_,_,uy.o,.dead cc M5.o rfl⟩
     . intro k e a;subst e;rcases a with a | a
       . exact hd k i a.1
       . omega
     . intro k e;rcases e with e | e
       . exact R (A e.1)
       . exact R (R (by omega))
     . refine(b.o.mono (fun k e=>A e.1.1.1)).trans (HT2.o.mono (fun k e=>?_)) (fun _ e _=>e);rcases e with e | e
       . exact R e.1
       . rw[e];exact A i
end Go.Proofs.YtjmndjmhjleabaaGreatDoor