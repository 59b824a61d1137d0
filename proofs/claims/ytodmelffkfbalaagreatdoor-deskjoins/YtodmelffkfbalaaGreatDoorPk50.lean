import Derived.Test.YtodmelffkfbalaaGreatDoorPk49
import Derived.Lib.SlBytesConst
import Derived.Test.YtodmelffkfbalaaGreatDoorRfReqs
open Go.Value renaming int->I,string->V,slice->Z,pointer->Q
open Go.IntKind renaming i64->J
open Go.Obj renaming cells->K
open Go.Ending renaming returned->Y
open Option renaming none->U,some->M
open Or renaming inl->A,inr->R
open Go renaming World->X
set_option maxHeartbeats 6400000
set_option maxRecDepth 100000
open Go.Proofs.Tryz
namespace Go.Proofs.YtodmelffkfbalaaGreatDoor
open Go.RowKit
theorem aB.wE {w:X}{bo:ag}{cap:Nat}{l:ab}(h:aB w bo cap l)(b:l≠[])(a:Addr)(e:bo=M a):a.block<w.heap.size:=by
 have c:0<l.length:=kY.2 b;rw[e] at h;have:=bY w _ (h.j 0 c);rwa[oc] at this
structure kw (w:X)(aam:Nat->Prop)(p g gs:Nat)(P:bJ)(wr:X):Prop where
 c:∃Pd,dt wr Pd p g gs P∧∀k,Pd k->w.heap.size<=k∧¬aam k
 b:Below w.heap.size w wr
 a:∀k,aam k->w.heap.size<=k∧k<wr.heap.size
section
variable {w wr W w':X} {aam:Nat->Prop} {p g gs:Nat} {P:bJ}
theorem kw.B (h:kw w aam p g gs P wr)(a:Below wr.heap.size wr w'):kw w aam p g gs P w':=by
 obtain⟨⟨c,d,f⟩,i,b⟩:=h;exact⟨⟨c,d.B a,f⟩,au i a,fun k e=>⟨(b k e).1,mC (b k e).2 a.size⟩⟩
theorem kw.y (h:kw w aam p g gs P wr)(a:am aam wr w'):kw w (fun k=>(aam k∨wr.heap.size<=k)∧k<w'.heap.size) p g gs P w':=by
 obtain⟨⟨f,i,b⟩,c,d⟩:=h;have n:=a.b;have j:=c.size;refine⟨⟨fun k=>f k∧k<wr.heap.size,(i.j (fun k l e=>⟨e,l⟩)).y a (fun k e m=>(b k e.1).2 m),fun k e=>⟨(b k e.1).1,fun q=>?_⟩⟩,c.trans (a.below (fun k e=>(d k e).1) c.size),fun k e=>⟨?_,e.2⟩⟩
 . rcases q.1 with q | q
   . exact(b k e.1).2 q
   . have:=e.2;omega
 . rcases e.1 with q | q
   . exact(d k q).1
   . omega
structure G8 (w:X)(aam:Nat->Prop)(p g gs:Nat)(W:X)(r:bJ×mn)(e:Ending)(w':X):Prop where
 b:∃(ao uo:ag) (jB an gQ un:Nat),e=Y (.agg #[I J (r.2.a:Int),Z ao an jB,Z uo un gQ])∧an=r.2.b.length∧un=r.2.c.length∧aB w' ao jB r.2.b∧aB w' uo gQ r.2.c∧kw w (fun k=>aam k∨(r.2.c≠[]∧aw uo=M k)) p g gs r.1 w'
 a:kw w aam p g gs r.1 w'
 c:am (fun k=>w.heap.size<=k∧¬aam k) W w'
theorem kw.G (h:kw w aam p g gs P wr)(j:Below wr.heap.size wr W)(hP:dj w){N:Nat}(ok:il P N)(v:P.a.length<=1000000)(x:kJ){bo:ag}{fZ nb:Nat}(hB:aB W bo fZ x.b)(tL:x.b≠[]->∀a,bo=M a->a.block<w.heap.size∨wr.heap.size<=a.block)(hn:x.b.length=nb)(hl:N+nb<=20000):
 Calls prog 28 #[Q (M ⟨p,0,U⟩),.agg #[I J x.c,I J x.a,I J x.n,Z bo nb fZ]] W fun e w'=>G8 w aam p g gs W (gR P x) e w':=by
 obtain⟨⟨T,h1,l⟩,m,y⟩:=h;have hz:=j.size;have h5:dt W (fun k=>T k∧k<wr.heap.size) p g gs P:=(h1.j (fun _ hk e=>⟨e,hk⟩)).B j;refine(SE hP (au m j) (fun i e=>(l i e.1).1) h5 ok v x hB (fun z a e q=>?_) hn hl).mono fun e w' d=>?_
 . rcases tL z a e with c | c
   . have:=(l _ q.1).1;omega
   . have:=q.2;omega
 . have B:=d.b.b;have o:=(au m j).trans (d.b.below (fun i e=>(l i e.1).1) (au m j).size);have C:∀k,ay (fun k=>T k∧k<wr.heap.size) W k->w.heap.size<=k∧¬aam k:=fun k q=>by
    rcases q with q | q
    . exact l k q.1
    . exact⟨cq (au m j).size q,fun c=>by have:=(y k c).2;omega⟩
   have r:∀k,aam k->w.heap.size<=k∧k<w'.heap.size:=fun k q=>⟨(y k q).1,mC (y k q).2 (cq hz B)⟩;obtain⟨ao,D,jB,an,gQ,un,he,G,H,L,s,A2,S,t,u⟩:=d.d;refine⟨⟨ao,D,jB,an,gQ,un,he,G,H,L,s,⟨A2,S,fun k q=>⟨(C k (t k q)).1,fun c=>?_⟩⟩,o,fun k q=>?_⟩,⟨⟨_,d.c,C⟩,o,r⟩,d.b.j fun k q=>l k q.1⟩
   . rcases c with c | ⟨c,f⟩
     . exact(C k (t k q)).2 c
     . cases D with
       | none=>cases f
       | some a=>injection f with f;exact(u c a rfl).2 (by rw[f];exact q)
   . rcases q with q | ⟨c,f⟩
     . exact r k q
     . cases D with
       | none=>cases f
       | some a =>
         injection f with f;have h8:=(u c a rfl).1;have h9:=s.wE c a rfl;have h10:a.block=k:=f;have:=(au m j).size;exact⟨by omega,by omega⟩
theorem kw.j (h:kw w aam p g gs P wr):∃B,aS wr B gs P.s:=by
 obtain⟨⟨c,a,d⟩,_,_⟩:=h;obtain⟨B,b,_⟩:=a.f;exact⟨B,b⟩
theorem kw.f (h:kw w aam p g gs P wr):wr.cell? ⟨p,0,U⟩=M (Q (M ⟨g,0,U⟩))∧wr.cell? ⟨g,0,U⟩=M (Q (M ⟨gs,0,U⟩)):=by
 obtain⟨⟨b,a,c⟩,_,_⟩:=h;exact a.a
theorem kw.jK {a:X}(c:Below w.heap.size w a)(h:dt wr (fun k=>a.heap.size<=k∧k<wr.heap.size) p g gs P)(b:Below a.heap.size a wr):kw w (fun _=>False) p g gs P wr :=
 ⟨⟨_,h,fun _ e=>⟨cq c.size e.1,fun q=>q⟩⟩,au c b,fun _ e=>e.elim⟩
end
theorem kw.r {w wr:X}{aam Q':Nat->Prop}{p g gs:Nat}{P:bJ}(h:kw w aam p g gs P wr)(a:∀k,Q' k->aam k):kw w Q' p g gs P wr:=by
 obtain⟨⟨c,d,b⟩,f,i⟩:=h;exact⟨⟨c,d,fun k e=>⟨(b k e).1,fun q=>(b k e).2 (a k q)⟩⟩,f,fun k e=>i k (a k e)⟩
def I0 (p:Nat):Obj:=K #[Q (M ⟨p,0,U⟩)] 161 (0,0)
structure eW (w:X)(aam:Nat->Prop)(d p g gs:Nat)(P:bJ)(wr:X):Prop where
 a:kw w aam p g gs P wr
 c:aam d
 b:wr.heap[d]? = M (I0 p)
section
variable {w wr w':X} {aam Q':Nat->Prop} {d p g gs:Nat} {P:bJ}
theorem eW.B (h:eW w aam d p g gs P wr)(a:Below wr.heap.size wr w'):eW w aam d p g gs P w' :=
 ⟨h.a.B a,h.c,(a.block d (bO.1 h.b).1).trans h.b⟩
theorem eW.r (h:eW w aam d p g gs P wr)(a:∀k,Q' k->aam k)(hd:Q' d):eW w Q' d p g gs P wr:=⟨h.a.r a,hd,h.b⟩
theorem eW.f (h:eW w aam d p g gs P wr)(a:am (fun k=>aam k∧k≠d) wr w'):eW w (fun k=>(aam k∨wr.heap.size<=k)∧k<w'.heap.size) d p g gs P w':=by
 have b:=(bO.1 h.b).1;have c:=a.b;exact⟨h.a.y (a.j fun k e=>e.1),⟨A h.c,by omega⟩,a.y h.b (fun e=>e.2 rfl)⟩
theorem eW.j (h:eW w aam d p g gs P wr):wr.cell? ⟨d,0,U⟩=M (Q (M ⟨p,0,U⟩)):=aq wr d 0 _ _ _ h.b
theorem vX (w:X):Calls prog 36 #[] w fun e w'=>∃d p g gs,e=Y (Q (M ⟨d,0,U⟩))∧eW w (fun k=>k=d) d p g gs im w'∧Below w.heap.size w w':=by
 go_enter func36,ntmps36;go_wp2_with fail;refine(Q0 w).mono ?_;rintro e c ⟨p,g,gs,rfl,f,a⟩;have j:=kw.jK (ar _ w) f a;have b:=(ar _ c).alloc (ak _) (K #[Q (M ⟨p,0,U⟩)] 161);have i:=(j.y (am.f (S:=fun _=>False) b)).r (Q':=fun k=>k=c.heap.size) (fun k e=>⟨R (by omega),by rw[bF];omega⟩);have l:Hid (eW w (fun k=>k=c.heap.size) c.heap.size p g gs im (c.alloc (K #[Q (M ⟨p,0,U⟩)] 161))):=⟨i,rfl,aX c _⟩;have m:=aa (au a b);clear f a j b i;go_wp2;go_ret;exact⟨_,p,g,gs,rfl,l.o,m.o⟩
end
theorem I4 (x y z:ae)(a:x.size+y.size+z.size<=9999999):(([32]:ab).intercalate ([x,y,z].map (·.data.toList))).length<=100000000000:=by
 have:=cH x;have:=cH y;have:=cH z
 simp[List.intercalate,List.intersperse] at *;omega
theorem IX {W:X}(a b c:ae)(t:Nat):∀(j:Nat) z,[a,b,c][j]? = M z->(W.alloc (K #[V a,V b,V c] t (0,0))).cell? ⟨W.heap.size,j,U⟩=M (V z):=fun j z d=>by
 have h:=aX W (K #[V a,V b,V c] t (0,0));match j,d with
 | 0,d=>injection d with d;subst d;exact aq _ _ 0 _ _ _ h
 | 1,d=>injection d with d;subst d;exact aq _ _ 1 _ _ _ h
 | 2,d=>injection d with d;subst d;exact aq _ _ 2 _ _ _ h
 | j+3,d=>simp at d
section
variable {w wr w':X} {aam Q':Nat->Prop} {d p g gs N:Nat} {P:bJ}
structure yM (w:X)(aam:Nat->Prop)(d p g gs:Nat)(W:X)(r:bJ×ab)(e:Ending)(w':X):Prop where
 c:e=Y (V ⟨r.2.toArray⟩)
 b:eW w aam d p g gs r.1 w'
 a:am (fun k=>w.heap.size<=k∧¬aam k) W w'
theorem yM.f {t:ab}(h:eW w aam d p g gs P wr)(a:Below wr.heap.size wr w'):yM w aam d p g gs wr (P,t) (Y (V ⟨t.toArray⟩)) w':=⟨rfl,h.B a,am.f a⟩
theorem eW.y (h:eW w aam d p g gs P wr):wr.cell? ⟨d,0,U⟩=M (Q (M ⟨p,0,U⟩))∧wr.cell? ⟨p,0,U⟩=M (Q (M ⟨g,0,U⟩))∧wr.cell? ⟨g,0,U⟩=M (Q (M ⟨gs,0,U⟩)):=⟨h.j,h.a.f.1,h.a.f.2⟩
theorem Q7 (h:eW w aam d p g gs P wr)(hP:dj w)(ok:il P N)(htr:P.a.length<=1000000)(s:ae)(hl:N+s.size<=20000):
 Calls prog 85 #[Q (M ⟨d,0,U⟩),V s] wr fun e w'=>yM w aam d p g gs wr (jy P s.data.toList) e w':=by
 obtain⟨k0,k1,k2⟩:=h.y;have hbe:=h.a.b;obtain⟨y,f⟩:∃y,jy P s.data.toList=y:=⟨_,rfl⟩;rw[f];unfold jy at f;have T:=cH s;have HE:∀k,(s.data.toList=k->(s.toList==k)=true)∧(s.data.toList≠k->(s.toList==k)=false):=fun k=>by
  rw[Lib.toList_data];exact⟨fun h=>cR.2 h,fun h=>aQ.2 h⟩
 have Dl:=aa (hP.a hbe);by_cases e0:s.data.toList=[]
 . rw[if_pos e0] at f;have hz:s.size=0:=by rw[<-T,e0];rfl
   obtain rfl:=qe s hz;have HF:=aa (yM.f h (t:=[]) (ar _ wr));rw[f] at HF;clear h k0 k1 k2 HE;go_enter func85,ntmps85;go_wp2;go_ret;exact HF.o
 have u0:=qh s (Nat.pos_of_ne_zero fun e=>e0 (xS.1 (by rw[T];exact e)));rw[if_neg e0] at f;by_cases e1:s.data.toList=[108,105,115,116]
 . rw[if_pos e1] at f;have u1:=(HE [108,105,115,116]).1 e1;obtain⟨B,gl,kp,C,ca,aaO,hI⟩:=h.a.j;have c3:wr.cell? ⟨gs,0,U⟩=M (Q (M ⟨gl,0,U⟩)):=aq wr gs 0 _ _ _ hI.a;have HLi:=Q6 hI.d ok.s.h ok.s.y Dl.o k0 k1 k2 c3;have HF:=aa (fun w' hb=>yM.f h (t:=qk P.s.h.l) (w':=w') hb);rw[f] at HF;have hR2:y=(P,qk P.s.h.l):=f.symm;clear h k0 k1 k2 HE hI c3;go_enter func85,ntmps85;go_wp2_with fail;refine HLi.mono ?_;rintro e u ⟨rfl,hb⟩;have HB:=aa (HF.o _ hb);clear hb HLi;go_wp2;go_ret;exact HB.o
 rw[if_neg e1] at f;have u1:=(HE [108,105,115,116]).2 e1;by_cases e2:s.data.toList=[108,111,103]
 . rw[if_pos e2] at f;have u2:=(HE [108,111,103]).1 e2;obtain⟨B,hSt⟩:=h.a.j;have HLg:=Qz hSt;have hf1:=ok.s.b;have hf2:=ok.s.d
   obtain⟨D,hln⟩:∃D,P.s.a.length=D:=⟨_,rfl⟩;have Yr:=aa (fun(n:Nat) (hn:n<1000000000) (W:X) (hP:dj W)=>mE n hn W hP);have HF:=aa (fun w' hb=>yM.f h (t:=fM [[108,111,103],jc P.s.a.length,jc P.s.b]) (w':=w') hb);rw[f] at HF;rw[hln] at HLg hf1 hf2 f;have h9:=(gx 8 D).1;have h8:=(gx 8 P.s.b).1
   have HT:Hid (y.2=fM ([⟨#[108,111,103]⟩,⟨(bx 8 D).toArray⟩,⟨(bx 8 P.s.b).toArray⟩].map (fun x:ae=>x.data.toList))):=by unfold Hid;rw[<-f];rfl
   have hz9:(⟨(bx 8 D).toArray⟩:ae).size<=9:=by show(bx 8 D).toArray.size<=9;rw[cz];exact h9
   have hz8:(⟨(bx 8 P.s.b).toArray⟩:ae).size<=9:=by show(bx 8 P.s.b).toArray.size<=9;rw[cz];exact h8
   have HLm:Hid (D<1000000000∧P.s.b<1000000000):=⟨by omega,by omega⟩;generalize P.s.b=sn at *;clear h HE hSt hf1 hf2 hln f h9 h8;go_enter func85,ntmps85;go_wp2_with fail;refine HLg.mono ?_;rintro e u ⟨VZ,ca1,rfl,_,q⟩;have HB1:=aa q;clear q HLg;go_wp2_with fail;refine(Yr.o D HLm.o.1 _ (Dl.o.a HB1.o)).mono ?_;rintro e w2 ⟨rfl,b⟩;have HB2:=aa (au HB1.o b);clear b;go_wp2_with fail;refine(Yr.o sn HLm.o.2 _ (Dl.o.a HB2.o)).mono ?_;rintro e G ⟨rfl,hb3⟩;have HB3:=aa (au (au HB2.o hb3) ((ar _ G).alloc (ak _) (K #[V ⟨#[108,111,103]⟩,V ⟨(bx 8 D).toArray⟩,V ⟨(bx 8 sn).toArray⟩] 9)));have UN:=pU [⟨#[108,111,103]⟩,⟨(bx 8 D).toArray⟩,⟨(bx 8 sn).toArray⟩] G.heap.size 3 (G.alloc (K #[V ⟨#[108,111,103]⟩,V ⟨(bx 8 D).toArray⟩,V ⟨(bx 8 sn).toArray⟩] 9)) rfl (by decide) (IX _ _ _ _) (I4 _ _ _ (by show 3+_+_<=_;omega)) (by decide);rw[<-HT.o] at UN;clear hb3;go_wp2_with fail;refine UN.mono ?_;rintro e w4 ⟨rfl,c⟩;have jL:=aa (HF.o _ (au HB3.o c));clear c UN;go_wp2;go_ret;exact⟨rfl,jL.o.b,jL.o.a⟩
 rw[if_neg e2] at f;have u2:=(HE [108,111,103]).2 e2;have oW:=N9 s wr (by omega) Dl.o;have hlen:=fun x hx=>zm (l:=s.data.toList) (x:=x) hx;have v:=aa h;have su:=aa ok;have Ca:=aa htr;have HP:=aa hP
 generalize qm s.data.toList=O at *;have HRd:=aa f;have HLen:=aa hlen;have ZM:=aa T
 clear h ok htr hP HE f hlen T e0 e1 e2 k0 k1 k2;go_enter func85,ntmps85;go_wp2_with fail;refine oW.mono ?_;intro e u r;clear oW;cases r with
 | no r q =>
   subst r;have HB1:=aa q;clear q;unfold mM;have b:=(ar _ u).alloc (ak _) (K #[I J 0,I J 0,I J 0,Z U 0 0] 73);have UN:=pU [⟨#[119,104,97,116]⟩] (u.alloc (K #[I J 0,I J 0,I J 0,Z U 0 0] 73)).heap.size 1 ((u.alloc (K #[I J 0,I J 0,I J 0,Z U 0 0] 73)).alloc (K #[V ⟨#[119,104,97,116]⟩] 9)) rfl (by decide) (fun j z hj=>by
    match j,hj with
    | 0,hj=>injection hj with hj;subst hj;exact aq _ _ 0 _ _ _ (aX _ _)
    | j+1,hj=>simp at hj) (by decide) (by decide)
   rw[show(u.alloc (K #[I J 0,I J 0,I J 0,Z U 0 0] 73)).heap.size=u.heap.size+1 from bF ..] at UN;have HB3:=aa (au (au HB1.o b) ((ar _ _).alloc (ak _) (K #[V ⟨#[119,104,97,116]⟩] 9)));clear b;go_wp2_with fail;refine UN.mono ?_;rintro e w4 ⟨rfl,c⟩;have jL:=aa (au HB3.o c);clear c UN;go_wp2;go_ret;rw[<-HRd.o];exact yM.f v.o jL.o
 | yes x C H m r hm hO q =>
   subst r;have b:=(ar _ u).alloc (ak _) (K #[I J x.c,I J x.a,I J x.n,Z C m H] 73);have hr2:=aX u (K #[I J x.c,I J x.a,I J x.n,Z C m H] 73);have L:=au (au q b) (bj _ _);have hxl:=HLen.o x rfl;rw[ZM.o] at hxl;have R8:=v.o.a.G L HP.o su.o Ca.o x (((hO.G b).G (bj _ _)).f) (fun _ a e=>R (hO.a a e).1) hm.symm (by omega);have hq0:=(L.cell (bY wr _ v.o.j)).trans v.o.j;obtain⟨⟨z0,z1,z2,z3⟩,_⟩:=dU ((bj (u.alloc (K #[I J x.c,I J x.a,I J x.n,Z C m H] 73)).heap.size _).block _ (by rw[bF];omega) |>.trans hr2);have hRw:=(L.block d (bO.1 v.o.b).1).trans v.o.b;have HX:Hid (∀e G,G8 w aam p g gs (u.alloc (K #[I J x.c,I J x.a,I J x.n,Z C m H] 73)).drew (gR P x) e G->∃(C uo:ag) (jB an gQ un:Nat),e=Y (.agg #[I J ((gR P x).2.a:Int),Z C an jB,Z uo un gQ])∧Calls prog 143 #[.agg #[I J ((gR P x).2.a:Int),Z C an jB,Z uo un gQ]] G fun e w'=>yM w aam d p g gs wr y e w'):=fun e G r=>by
    obtain⟨⟨C,uo,jB,an,gQ,un,he,han,hun,hI1,hI2,_⟩,hat,hT⟩:=r;refine⟨C,uo,jB,an,gQ,un,he,?_⟩;have h1:=Ft su.o.s x;have h2:=Fu P x;have h3:=NU P x
    have hTT:am (fun k=>w.heap.size<=k∧¬aam k) wr G:=(am.f L).a hT (fun i e _=>e);refine(SG G (gR P x).2 han hun hI1 hI2 (HP.o.a hat.b) (by omega) (by omega) (by omega)).mono ?_;rintro e w4 ⟨rfl,c⟩;rw[<-HRd.o];refine⟨rfl,⟨hat.B c,v.o.c,(c.block d (bO.1 (hTT.y v.o.b (fun e=>e.2 v.o.c))).1).trans (hTT.y v.o.b (fun e=>e.2 v.o.c))⟩,hTT.a (am.f (S:=fun k=>w.heap.size<=k∧¬aam k) c) (fun i e _=>e)⟩
   clear q b hr2 L hxl hO hRw v su Ca HLen HRd hm;generalize (gR P x).2.a=cd at *;go_upto_region 12 with fail
   generalize (u.alloc (K #[I J x.c,I J x.a,I J x.n,Z C m H] 73))=W2 at *;go_region_law (first
    | (go_simp;go_at_call 28;refine R8.mono ?_;intro e G r;obtain⟨lS,uo3,ak4,an3,ak5,un3,rfl,HCo⟩:=HX.o e G r;have HC:=aa HCo;clear r HCo)
    | (go_simp;go_at_call 143;refine HC.o.mono ?_;intro e w4 r;have HM:=aa r;obtain rfl:=r.c;clear r))
   all_goals
    go_wp2;go_ret;exact HM.o
end
theorem IA (l:ab)(c:UInt8):0<=Lib.indexByte l c<->c∈l:=by
 constructor
 . intro h;obtain⟨o,a⟩:∃o:Nat,Lib.indexByte l c=o:=⟨(Lib.indexByte l c).toNat,by omega⟩;exact nw (Lib.indexByte_some a).1
 . intro h;obtain⟨j,b,e⟩:=List.mem_iff_getElem.1 h;refine sF fun f=>?_;have:=Lib.indexByte_ge l c;have d:Lib.indexByte l c=-1:=by omega
   exact Lib.indexByte_none d j (by rw[iz b,e])
theorem L7 (s:ae)(c:UInt8)(w:X):
 Calls prog 137 #[V s,V ⟨#[c]⟩] w fun e w'=>e=Y (I J (Lib.indexByte s.data.toList c))∧w'=w:=by
 have a:=Hl s c w;go_enter func137,ntmps137;go_wp2_with fail;refine a.mono ?_;rintro e w' ⟨rfl,b⟩;subst b;go_wp2;go_ret;exact⟨rfl,rfl⟩
theorem KH (s:ae)(c:UInt8)(w:X):
 Calls prog 83 #[V s,V ⟨#[c]⟩] w fun e w'=>e=Y (.bool (decide (c∈s.data.toList)))∧w'=w:=by
 have b:=L7 s c w;have a:decide (0<=Lib.indexByte s.data.toList c)=decide (c∈s.data.toList):=decide_eq_decide.2 (IA _ _);have d:=aa a;clear a;generalize Lib.indexByte s.data.toList c=r at *;go_enter func83,ntmps83;go_wp2_with fail;refine b.mono ?_;rintro e w' ⟨rfl,f⟩;subst f;go_wp2;go_ret;exact⟨fy d.o,rfl⟩
def bu (ls:List ae):List (ab):=ls.map (·.data.toList)
def jz (c a:Int):Value:=.agg #[I J c,I J a]
inductive rK (w:X)(aam:Nat->Prop)(d p g gs:Nat)(P:bJ)(W:X)(ls:List (ab)):Ending->X->Prop
 | many {w'}:300<ls.length->eW w aam d p g gs P w'->am (fun k=>w.heap.size<=k∧¬aam k) W w'->rK w aam d p g gs P W ls (Y (.tuple #[V ⟨#[]⟩,jz 8 (-1)])) w'
 | bad {w'} (i:Nat):ls.length<=300->fC ls=M i->eW w aam d p g gs P w'->am (fun k=>w.heap.size<=k∧¬aam k) W w'->rK w aam d p g gs P W ls (Y (.tuple #[V ⟨#[]⟩,jz 2 i])) w'
 | fine {w'}:ls.length<=300->fC ls=U->eW w aam d p g gs (cL P ls).1 w'->am (fun k=>w.heap.size<=k∧¬aam k) W w'->rK w aam d p g gs P W ls (Y (.tuple #[V ⟨(cL P ls).2.toArray⟩,jz 0 0])) w'
theorem CH:∀(a:List (ab)) (i:Nat) (b:i<a.length),(∀l∈a.take i,10∉l)->10∈a[i]->fC a=M i
 | l :: r, 0, _, _, h => by
   have h:(10:UInt8)∈l:=h;show(if 10∈l then M 0 else _)=_;rw[if_pos h]
 | l :: r, i + 1, b, hn, h => by
   show(if 10∈l then M 0 else (fC r).map (·+1))=_;rw[if_neg (hn l (by simp)),CH r i (by simpa using b) (fun x c=>hn x (by simp[c])) h];rfl
theorem Cv:∀(a:List (ab)),(∀l∈a,10∉l)->fC a=U
 | [],_=>rfl
 | l :: r, h => by
   show(if 10∈l then M 0 else (fC r).map (·+1))=_;rw[if_neg (h l (by simp)),Cv r (fun x b=>h x (by simp[b]))];rfl
section
variable {w wv w':X} {aam Q':Nat->Prop} {d p g gs N:Nat} {P:bJ}
theorem CI {W:X}{g t:Nat}{c f:Value}(h:W.heap[g]? = M (K #[c,f] t (0,0)))(a b:Value):
 ((W.setCell ⟨g,0,U⟩ a).setCell ⟨g,1,U⟩ b).heap[g]? = M (K #[a,b] t (0,0))∧am (fun k=>k=g) W ((W.setCell ⟨g,0,U⟩ a).setCell ⟨g,1,U⟩ b) :=
 ⟨aP _ g 1 _ _ b (aP W g 0 _ _ a h),(am.r (fun k=>k=g) W ⟨g,0,U⟩ a rfl).a (am.r (fun k=>k=g) (W.setCell ⟨g,0,U⟩ a) ⟨g,1,U⟩ b rfl) (fun _ e _=>e)⟩
theorem zc (x y:ab):(fM [x,y]).length=x.length+y.length+2:=by simp[fM,List.intercalate,List.intersperse];omega
theorem II (o:mn)(a:o.b.length<=1000000000)(b:o.c.length<=8000):(rJ o).length<=9000000000:=by
 have:=(gx 8 o.a).1;have:=pd o.b;have:=pd o.c
 unfold rJ jc;repeat' split
 . rw[zc];simp only[bG,iv];omega
 . rw[zc];simp only[bG,iv];omega
 . rw[zc];simp only[bG,iv];omega
 . decide
theorem Cw {P:bJ}{N:Nat}(ok:il P N){l:ab}(e:l.length<=20000):(jy P l).2.length<=10000000000:=by
 unfold jy;split
 . exact ax _
 split
 . have:=wk P.s.h.l 12 ok.s.h.b (fun u a=>(ok.s.h.a u a).b);show(qk P.s.h.l).length<=_;unfold qk;rw[aD,show(fM [[101,110,100]]).length=4 from rfl];omega
 split
 . have:=(gx 8 P.s.a.length).1;have:=(gx 8 P.s.b).1
   simp[fM,jc,List.intercalate,List.intersperse];omega
 split
 . exact Nat.le_of_ble_eq_true rfl
 . rename_i x b;have f:=Ft ok.s x;have c:=Fu P x;have i:=zm b
   exact cq (II _ (by omega) c) (by omega)
theorem tJ (h:eW w aam d p g gs P wv)(hP:dj w)(ok:il P N)(htr:P.a.length<=900000)(b:List ae){lo:ag}{iC n:Nat}(H:bq wv lo iC n (fi b))(hn:b.length=n)(hlo:b≠[]->∀a,lo=M a->a.block<w.heap.size∨aam a.block)(hsum:N+hZ (bu b)<=20000):
 Calls prog 38 #[Q (M ⟨d,0,U⟩),Z lo n iC] wv fun e w'=>rK w aam d p g gs P wv (bu b) e w':=by
 have hb1:=(ar _ wv).alloc (ak _) (K #[I J 0,I J 0] 108);have hr1:=aX wv (K #[I J 0,I J 0] 108);have hz1:=bF wv (K #[I J 0,I J 0] 108);have hd1:=h.f (am.f (S:=fun k=>aam k∧k≠d) hb1);have B:=h.a.a;have hdl:d<wv.heap.size:=(B d h.c).2;have hwz:=h.a.b.size;have HLn:Hid (∀W,am (fun k=>w.heap.size<=k∧¬aam k) wv W->bq W lo iC n (fi b)):=fun W hT=>by
  by_cases hne:b=[]
  . subst hne;exact⟨H.1,H.2.1,fun j u hj=>by simp[fi] at hj⟩
  . exact H.B hT (fun a e q=>by
     rcases hlo hne a e with q2 | q2
     . omega
     . exact q.2 q2)
 have s:Hid (am (fun k=>w.heap.size<=k∧¬aam k) wv (wv.alloc (K #[I J 0,I J 0] 108))):=am.f hb1;obtain⟨W1,hW1⟩:∃W1,wv.alloc (K #[I J 0,I J 0] 108)=W1:=⟨_,rfl⟩;have HQ:Hid (∀k,aam k->k<wv.heap.size):=fun k e=>(B k e).2;have ZJ:Hid (∀c a:Int,((W1.setCell ⟨wv.heap.size,0,U⟩ (I J c)).setCell ⟨wv.heap.size,1,U⟩ (I J a)).heap[wv.heap.size]? = M (K #[I J c,I J a] 108 (0,0))∧eW w aam d p g gs P ((W1.setCell ⟨wv.heap.size,0,U⟩ (I J c)).setCell ⟨wv.heap.size,1,U⟩ (I J a))∧am (fun k=>w.heap.size<=k∧¬aam k) wv ((W1.setCell ⟨wv.heap.size,0,U⟩ (I J c)).setCell ⟨wv.heap.size,1,U⟩ (I J a))):=fun c a=>by
  rw[<-hW1];obtain⟨h1,h2⟩:=CI hr1 (I J c) (I J a);have hz:=h2.b;have h3:=hd1.f (h2.j (S':=fun k=>((aam k∨wv.heap.size<=k)∧k<(wv.alloc (K #[I J 0,I J 0] 108)).heap.size)∧k≠d) (fun k e=>by subst e;exact⟨⟨R (ak _),by omega⟩,by omega⟩));refine⟨h1,h3.r (fun k e=>?_) h.c,s.o.a h2 (fun i e hi=>by subst e;omega)⟩;have:=HQ.o k e;exact⟨A ⟨A e,by omega⟩,by omega⟩
 obtain⟨⟨z0,z1⟩,f0,f1⟩:=ce hr1;have HH:=aa h;have HD1:=aa hd1;have su:=aa ok;have HP:=aa hP;have Ca:=aa htr;have Nz:=aa hsum;have HN:=aa hn;have C:=aa hz1;have HR1:=aa hr1
 have HDl:=aa hdl;have HWz:=aa hwz
 have hcap:=H.1;clear h hd1 ok hP htr hsum hn H hlo hb1 B hz1 hdl hwz hr1;go_enter func38,ntmps38;go_upto_region 1 with fail
 rw[hW1] at HD1 s C HR1 z0 z1 f0 f1;clear hW1;by_cases h3:300<n
 . have h3':(300:Int)<n:=by omega
   obtain⟨f,m,r⟩:=ZJ.o 8 (-1);have L:=aa f;have T:=aa m;have HTF:=aa r
   clear f m r ZJ;go_wp2;generalize ((W1.setCell ⟨wv.heap.size,0,U⟩ _).setCell ⟨wv.heap.size,1,U⟩ _)=wf at *;obtain⟨⟨r0,r1⟩,_⟩:=ce L.o;refine aR (v:=.tuple #[V ⟨#[]⟩,jz 8 (-1)]) (by simp[results,results38,go_sem,r0,r1,jz]) rfl ?_;exact .many (by unfold bu;rw[gD,HN.o];exact h3) T.o HTF.o
 have h3':¬(300:Int)<n:=by omega
 have HL3:Hid ((bu b).length<=300):=by unfold Hid bu;rw[gD,HN.o];omega
 go_wp2;go_loopw [17] (fun v17 W=>W=W1∧∃i:Nat,i<=n∧v17=I J i∧∀l∈(bu b).take i,(10:UInt8)∉l) (fun v _=>n-(intOf v).toNat)
 case atStart=>exact⟨rfl,0,ax _,rfl,fun l hl=>by simp at hl⟩
 case round =>
  obtain⟨rfl,i,hi,rfl,hno⟩:=hrel;have sS:=aa hno;clear hno;by_cases hlt:i<n
  . have hil:i<b.length:=by rw[HN.o];exact hlt
    have ad6:i<(bu b).length:=by unfold bu;rw[gD];exact hil
    obtain⟨bb,oo,rfl,hc⟩:=(HLn.o _ s.o).f (by rw[oR];omega);have hlt':(i:Int)<n:=by omega
    have ci:=hc i _ (pV b i hil);have hgi:(bu b)[i]=b[i].data.toList:=by simp[bu]
    have HC:=KH b[i] 10 wr;have HB:Hid (10∈b[i].data.toList->fC (bu b)=M i):=fun e=>CH _ i ad6 sS.o (by rw[hgi];exact e);have JB:Hid (10∉b[i].data.toList->∀l∈(bu b).take (i+1),(10:UInt8)∉l):=fun e l hl=>by
     rw[fR ad6,eC,cY] at hl;rcases hl with hl | rfl
     . exact sS.o l hl
     . rw[hgi];exact e
    clear hc hgi ad6;generalize b[i]=x at *;by_cases hx:(10:UInt8)∈x.data.toList
    . rw[br hx] at HC;obtain⟨f,m,r⟩:=ZJ.o 2 i;have L:=aa f;have T:=aa m;have HTF:=aa r
      clear f m r ZJ HLn;go_wp2_with fail;refine HC.mono ?_;rintro e w2 ⟨rfl,hw⟩;subst hw;go_wp2;generalize ((w2.setCell ⟨wv.heap.size,0,U⟩ _).setCell ⟨wv.heap.size,1,U⟩ _)=wf at *;obtain⟨⟨r0,r1⟩,_⟩:=ce L.o;refine aR (v:=.tuple #[V ⟨#[]⟩,jz 2 i]) (by simp[results,results38,go_sem,r0,r1,jz]) rfl ?_;exact .bad i HL3.o (HB.o hx) T.o HTF.o
    . rw[ba hx] at HC;have HN3:=aa (JB.o hx);clear JB HB;go_wp2_with fail;refine HC.mono ?_;rintro e w2 ⟨rfl,hw⟩;subst hw;go_wp2;go_roundw
      case rel=>exact⟨trivial,i+1,by omega,by go_num,HN3.o⟩
      case measure=>simp[intOf];omega
  . obtain rfl:i=n:=by omega
    rw[gF (by unfold bu;rw[gD,HN.o];exact ak _)] at sS;have E9:=aa (Cv _ sS.o);have t:=(ar _ wr).alloc (ak _) (K #[Q U,Z U 0 0] 167);have hd2:=HD1.o.f (am.f (S:=fun k=>((aam k∨wv.heap.size<=k)∧k<wr.heap.size)∧k≠d) t);have hbd:=ky.j wr;have hr2:=(t.block wv.heap.size (by have:=C.o;omega)).trans HR1.o;have jG:=s.o.a (am.f (S:=fun k=>w.heap.size<=k∧¬aam k) t) (fun i e _=>e);have hs2:=bF wr (K #[Q U,Z U 0 0] 167);obtain⟨W2,hW2⟩:∃W2,wr.alloc (K #[Q U,Z U 0 0] 167)=W2:=⟨_,rfl⟩;rw[hW2] at hd2 hbd hr2 jG hs2;have HD2:=aa hd2;have abw:=aa hbd;have HR2:=aa hr2;have HT2:=aa jG;have HS2:=aa hs2;have HW2:=aa hW2
    clear t hd2 hbd hr2 jG hs2 hW2 ZJ sS z0 z1 f0 f1 HR1 HD1 s;have Uh:=aa (show(bu b).length=i by unfold bu;rw[gD,HN.o]);have HZr:=aa (show d<wr.heap.size by have:=HDl.o;have:=C.o;omega);have D:=aa (show wv.heap.size<wr.heap.size by have:=C.o;omega);have HQ2:Hid (∀k,aam k->((((aam k∨wv.heap.size<=k)∧k<wr.heap.size)∨wr.heap.size<=k)∧k<W2.heap.size)):=fun k e=>by
     have:=HQ.o k e;have:=C.o;have:=HS2.o
     exact⟨A ⟨A e,by omega⟩,by omega⟩
    clear C HQ;go_upto_region 10 with fail
    rw[HW2.o];have HD0:=aa HH.o.c;clear HW2 HH;generalize wr.heap.size=bz at *;go_wp2;go_loopw [29] (fun v29 W=>∃(j:Nat) (Qj:Nat->Prop),j<=i∧v29=I J j∧eW w Qj d p g gs (cL P ((bu b).take j)).1 W∧(∀k,aam k->Qj k)∧Qj wv.heap.size∧ky W (fun k=>bz<=k∧Qj k) bz (cL P ((bu b).take j)).2∧am (fun k=>w.heap.size<=k∧¬aam k) wv W∧W.heap[wv.heap.size]? = M (K #[I J 0,I J 0] 108 (0,0))∧(cL P ((bu b).take j)).2.length<=10000000000*j) (fun v _=>i-(intOf v).toNat)
    case atStart=>exact⟨0,_,ax _,rfl,HD2.o,HQ2.o,⟨A ⟨R (ak _),D.o⟩,by have:=HS2.o;have:=D.o;omega⟩,abw.o.a (fun k hk e=>⟨e,R e,hk⟩),HT2.o,HR2.o,ax _⟩
    case round =>
     obtain⟨j,Qj,hj,rfl,hD,hQj,hQf,hB,hT,hF,z⟩:=hrel;by_cases hlt2:j<i
     . have hjl:j<b.length:=by rw[HN.o];exact hlt2
       have ad7:j<(bu b).length:=by rw[Uh.o];exact hlt2
       obtain⟨bb,oo,rfl,hc⟩:=(HLn.o _ hT).f (by rw[oR];omega);have ak7:(j:Int)<i:=by omega
       have cj:=hc j _ (pV b j hjl);have hgj:(bu b)[j]=b[j].data.toList:=by simp[bu]
       have hok:=wt su.o (bu b) j (by omega);have htr:=zh P (bu b) j (by omega);have hs1:=wm (bu b) j ad7;have hs2:=CG (bu b) (j+1);have hrun:=wp P (bu b) j ad7;have hzl:=cH b[j];rw[hgj,hzl] at hs1;rw[hgj] at hrun;have HM:=Q7 hD HP.o hok (by have:=Ca.o;omega) b[j] (by have:=Nz.o;omega);have hml:=Cw hok (l:=b[j].data.toList) (by have:=Nz.o;omega);have HBz:=aa hB.f;have NA:=aa hrun;have HMl:=aa hml;have HD:=aa hD;have HB:=aa hB;have HT:=aa hT;have HF:=aa hF;have HLen:=aa z;have HQj:=aa hQj;have HQf:=aa hQf
       clear hc hgj hok htr hs1 hs2 hrun hzl hml hD hB hT hF z ad7 hQj hQf;generalize cL P ((bu b).take j)=pj at *;generalize b[j]=x at *;generalize jy pj.1 x.data.toList=aaJ at *;go_wp2_with fail;refine HM.mono ?_;intro e w1 ho;have hB1:=HB.o.y ho.a (fun k e e2=>e2.2 e.2);have HW:=C5 hB1 ⟨aaJ.2.toArray⟩ (by show _+aaJ.2.toArray.size<=_;rw[cz];have:=HLen.o;have:=HMl.o;have:=h3';omega);have ZF:=aa (ho.a.y HF.o (fun e=>e.2 HQf.o));have s:=aa (HT.o.a ho.a (fun k e _=>⟨e.1,fun q=>e.2 (HQj.o k q)⟩));have ZI:=aa ho.b;have Cx:=aa ho.a.b
       obtain rfl:=ho.c;clear ho hB1 HM HB HF HT;go_wp2_with fail;refine HW.mono ?_;rintro e w2 ⟨rfl,t,ht2⟩;have hsz2:=ht2.b;have hd3:=ZI.o.f (ht2.j (S':=fun k=>Qj k∧k≠d) (fun k e=>⟨e.2,by have:=HZr.o;omega⟩));have HD3:=aa hd3;have HB2:=aa t;have HT2:=aa ht2;have Dn:=aa hsz2
       clear hd3 t ht2 hsz2 HW ZI;go_wp2;go_roundw
       case rel =>
        refine⟨j+1,fun k=>(Qj k∨w1.heap.size<=k)∧k<w2.heap.size,by omega,by go_num,?_,fun k q=>?_,?_,?_,?_,?_,?_⟩
        . rw[NA.o];exact HD3.o
        . refine⟨A (HQj.o k q),?_⟩;have:=HD.o.a.a k (HQj.o k q);have:=Cx.o;have:=Dn.o;omega
        . refine⟨A HQf.o,?_⟩;have:=HD.o.a.a _ HQf.o;have:=Cx.o;have:=Dn.o;omega
        . rw[NA.o];exact HB2.o.a (fun k hk e=>by
           rcases e with e | e
           . exact⟨e.1,A e.2,hk⟩
           . refine⟨?_,R e,hk⟩;have:=Cx.o;have:=HBz.o;omega)
        . exact s.o.a HT2.o (fun k e hk=>by have:=D.o;omega)
        . exact HT2.o.y ZF.o (fun e=>by have:=D.o;have:=e.1;omega)
        . rw[NA.o,aD];have:=HLen.o;have:=HMl.o;omega
       case measure=>simp[intOf];omega
     . obtain rfl:j=i:=by omega
       rw[gF (by rw[Uh.o];exact ak _)] at hD hB z;have Zr:=C6 hB (by omega);have HX:Hid (∀G,am (fun k=>bz<=k∧Qj k) wr G->(G.cell? ⟨wv.heap.size,0,U⟩=M (I J 0)∧G.cell? ⟨wv.heap.size,1,U⟩=M (I J 0))∧(G.frozen? ⟨wv.heap.size,0,U⟩=false∧G.frozen? ⟨wv.heap.size,1,U⟩=false)∧((G.setCell ⟨wv.heap.size,0,U⟩ (I J 0)).setCell ⟨wv.heap.size,1,U⟩ (I J 0)).heap[wv.heap.size]? = M (K #[I J 0,I J 0] 108 (0,0))∧eW w aam d p g gs (cL P (bu b)).1 ((G.setCell ⟨wv.heap.size,0,U⟩ (I J 0)).setCell ⟨wv.heap.size,1,U⟩ (I J 0))∧am (fun k=>w.heap.size<=k∧¬aam k) wv ((G.setCell ⟨wv.heap.size,0,U⟩ (I J 0)).setCell ⟨wv.heap.size,1,U⟩ (I J 0))):=fun G y=>by
        have RU:=y.y hF (fun e=>by have:=D.o;have:=e.1;omega);obtain⟨hz,hfz⟩:=ce RU;obtain⟨h1,h2⟩:=CI RU (I J 0) (I J 0);have hs3:=y.b;have hs4:=h2.b
        have B:=hD.a.a;have hd3:=hD.f (y.j (S':=fun k=>Qj k∧k≠d) (fun k e=>⟨e.2,by have:=HZr.o;omega⟩));have hd4:=hd3.f (h2.j (S':=fun k=>((Qj k∨wr.heap.size<=k)∧k<G.heap.size)∧k≠d) (fun k e=>by subst e;exact⟨⟨A hQf,by have:=(B _ hQf).2;omega⟩,by have:=HDl.o;omega⟩));refine⟨hz,hfz,h1,hd4.r (fun k q=>?_) (HD0.o),?_⟩
        . have:=(B k (hQj k q)).2;exact⟨A ⟨A (hQj k q),by omega⟩,by omega⟩
        . exact(hT.a y (fun k e hk=>by have:=D.o;omega)).a h2 (fun k e hk=>by omega)
       clear hD hB hT hF z HD2 abw HR2 HT2 HS2 hQj hQf;go_wp2_with fail;refine Zr.mono ?_;rintro e G ⟨rfl,y⟩;obtain⟨⟨z0,z1⟩,⟨f0,f1⟩,f,m,r⟩:=HX.o G y;have L:=aa f;have T:=aa m;have HTF:=aa r
       clear f m r HX y Zr;go_wp2;generalize ((G.setCell ⟨wv.heap.size,0,U⟩ _).setCell ⟨wv.heap.size,1,U⟩ _)=wf at *;obtain⟨⟨r0,r1⟩,_⟩:=ce L.o;refine aR (v:=.tuple #[V ⟨(cL P (bu b)).2.toArray⟩,jz 0 0]) (by simp[results,results38,go_sem,r0,r1,jz]) rfl ?_;exact .fine HL3.o E9.o T.o HTF.o
end
theorem kw.H {w0 w wr:X}{aam:Nat->Prop}{p g gs:Nat}{P:bJ}(h:kw w aam p g gs P wr)(b:Below w0.heap.size w0 w):kw w0 (fun k=>aam k∨(w0.heap.size<=k∧k<w.heap.size)) p g gs P wr:=by
 obtain⟨⟨d,f,a⟩,c,i⟩:=h;have l:=b.size;have j:=c.size
 refine⟨⟨d,f,fun k e=>⟨by have:=(a k e).1;omega,fun q=>?_⟩⟩,au b c,fun k e=>?_⟩
 . rcases q with q | q
   . exact(a k e).2 q
   . have:=(a k e).1;omega
 . rcases e with e | e
   . have:=i k e;exact⟨by omega,this.2⟩
   . exact⟨e.1,by omega⟩
structure qo (w:X)(aah:Nat->Prop)(d p g gs e q h hs:Nat)(P E:bJ)(W:X):Prop where
 b:∃Qd Qe:Nat->Prop,eW w Qd d p g gs P W∧eW w Qe e q h hs E W∧(∀k,w.heap.size<=k->k<W.heap.size->Qd k∨Qe k)∧Qd e∧Qe d∧∀k,aah k->Qd k∧Qe k
section
variable {w W W':X} {aah:Nat->Prop} {d p g gs e q h hs:Nat} {P E P' E':bJ}
theorem qo.j (t:qo w aah d p g gs e q h hs P E W):qo w aah e q h hs d p g gs E P W:=by
 obtain⟨c,f,i,j,l,m,n,o⟩:=t.b;exact⟨f,c,j,i,fun k a b=>(l k a b).symm,n,m,fun k a=>(o k a).symm⟩
theorem qo.f (t:qo w aah d p g gs e q h hs P E W)(o:Obj):qo w (fun k=>aah k∨k=W.heap.size) d p g gs e q h hs P E (W.alloc o):=by
 obtain⟨v,y,c,f,n,i,j,r⟩:=t.b;have l:=(ar _ W).alloc (ak _) o;have z:=bF W o;have m:=(c.a.a);have s:=(f.a.a)
 refine⟨_,_,c.f (am.f l),f.f (am.f l),fun k a b=>?_,⟨A i,by have:=(m _ i).2;omega⟩,⟨A j,by have:=(s _ j).2;omega⟩,fun k a=>?_⟩
 . by_cases u:k<W.heap.size
   . rcases n k a u with x | x
     . exact A ⟨A x,b⟩
     . exact R ⟨A x,b⟩
   . exact A ⟨R (by omega),b⟩
 . rcases a with a | a
   . have:=r k a;have B:=(m _ this.1).2;exact⟨⟨A this.1,by omega⟩,⟨A this.2,by omega⟩⟩
   . subst a;exact⟨⟨R (ak _),by omega⟩,⟨R (ak _),by omega⟩⟩
theorem qo.a (t:qo w aah d p g gs e q h hs P E W):∃aam:Nat->Prop,eW w aam d p g gs P W∧(∀k,aah k->aam k)∧∀W' P',eW w aam d p g gs P' W'->am (fun k=>w.heap.size<=k∧¬aam k) W W'->qo w aah d p g gs e q h hs P' E W':=by
 obtain⟨f,s,i,j,l,m,n,c⟩:=t.b;refine⟨f,i,fun k a=>(c k a).1,fun W' P' u o=>?_⟩;have B:=o.b;have C:=(i.a.a);have r:=(j.a.a)
 have v:am (fun k=>s k∧k≠e) W W':=(am.B _ W).a o (fun k a b=>by
  rcases l k a.1 b with x | x
  . exact absurd x a.2
  . exact⟨x,fun y=>a.2 (by rw[y];exact m)⟩)
 refine⟨f,_,u,j.f v,fun k a b=>?_,m,⟨A n,by have:=(r _ n).2;omega⟩,fun k a=>⟨(c k a).1,A (c k a).2,by have:=(r _ (c k a).2).2;omega⟩⟩;by_cases z:k<W.heap.size
 . rcases l k a z with x | x
   . exact A x
   . exact R ⟨A x,b⟩
 . exact R ⟨R (by omega),b⟩
end
theorem Cr:∀(a b:List (ab)),fC (a++b)=U<->fC a=U∧fC b=U
 | [],b=>by simp[fC]
 | l :: a, b => by
   have c:=Cr a b;show(if 10∈l then M 0 else (fC (a++b)).map (·+1))=U<->(if 10∈l then M 0 else (fC a).map (·+1))=U∧_;split
   . simp
   . simp[c]
theorem I2 (a b:List (ab)):hZ (a++b)=hZ a+hZ b:=by unfold hZ;rw[ku,List.sum_append]
theorem CB {P:bJ}{N:Nat}(ok:il P N)(a:List (ab))(b:hZ a<=20000):∀i,i<=a.length->(cL P (a.take i)).2.length<=10000000000*i
 | 0,_=>ax _
 | i + 1, c => by
   have d:=CB ok a b i (by omega);have e:=wm a i (by omega);have f:=CG a (i+1);have g:=Cw (wt ok a i (by omega)) (l:=a[i]) (by omega);rw[wp P a i (by omega),aD];omega
theorem SH (a:List ae)(ao:ag)(cap n:Nat)(w:X)(j:bq w ao cap n (fi a))(q:a.length=n)(r:∀s∈a,s.size<=140737488351232)(S:n<=300):
 Calls prog 35 #[Z ao n cap] w fun e w'=>∃b,e=Y (.bool b)∧(b=false->hZ (bu a)<=12000)∧w'=w:=by
 have t:=aa q;have B:=aa j;have C:=aa r
 have u:=j.1;clear q j r;go_enter func35,ntmps35;go_wp2;go_loopw [3,4] (fun D G W=>W=w∧∃k m:Nat,k<=n∧G=I J k∧D=I J m∧m<=12000∧Hid (hZ ((bu a).take k)=m)) (fun _ v _=>n-(intOf v).toNat)
 case atStart=>exact⟨rfl,0,0,ax _,rfl,rfl,by decide,rfl⟩
 case round =>
  obtain⟨rfl,k,m,T,rfl,rfl,H,l⟩:=hrel;by_cases p:k<n
  . have c:k<a.length:=by rw[t.o];exact p
    have f:k<(bu a).length:=by unfold bu;rw[gD];exact c
    obtain⟨bb,oo,rfl,y⟩:=B.o.f (by rw[oR];omega);have z:(k:Int)<n:=by omega
    have ck:=y k _ (pV a k c);have L:=C.o a[k] (fb c);have g:(bu a)[k].length=a[k].size:=by simp[bu]
    have d:=wm (bu a) k f;rw[l.out,g] at d;have i:=aa d;clear y g d f;generalize a[k]=x at *;by_cases h:12000<m+x.size
    . have N:(12000:Int)<(m:Int)+x.size:=by omega
      clear i;go_wp2;go_ret;exact⟨true,rfl,(fun e=>by cases e),rfl⟩
    . have N:¬(12000:Int)<(m:Int)+x.size:=by omega
      go_wp2;go_roundw
      case rel=>exact⟨trivial,k+1,m+x.size,by omega,by go_num,by go_num,by omega,i.o.symm⟩
      case measure=>simp[intOf];omega
  . obtain rfl:k=n:=by omega
    rw[gF (by unfold bu;rw[gD,t.o];exact ak _)] at l;go_wp2;go_ret;exact⟨false,rfl,fun _=>by rw[l.out];exact H,rfl⟩
theorem KI (w:X)(z:dj w):
 Calls prog 34 #[] w fun e w'=>e=Y (.bool true)∧Below w.heap.size w w':=by
 go_enter func34,ntmps34;go_wp2_with fail;refine(vX w).mono ?_;rintro e m ⟨d,p,g,C,rfl,c,f⟩;have b:=(ar _ m).alloc (ak _) (K (fi mL).toArray 9);have j:=c.f (am.f (S:=fun k=>k=d∧k≠d) b);have q:=bF m (K (fi mL).toArray 9);have u:=tJ j z il.f (by decide) mL (n:=6) (bq.j m (fi mL).toArray 6 9 (0,0)) rfl (fun _ a e=>by injection e with e;subst e;exact R ⟨R (ak _),by show m.heap.size<_;omega⟩) (by decide);have r:=aa (au f b);clear c j q f b;go_wp2_with fail;refine u.mono ?_;intro e v x;obtain⟨rfl,l⟩:e=Y (.tuple #[V ⟨(cL im (bu mL)).2.toArray⟩,jz 0 0])∧Below w.heap.size w v:=by
  have s:=r.o.size;cases x with
  | many h=>exact absurd h (by decide)
  | bad i _ h=>rw[show fC (bu mL)=U from IV] at h;cases h
  | fine _ _ _ y=>exact⟨rfl,r.o.trans (y.below (fun k e=>e.1) s)⟩
 have t:=aa (au l ((ar _ v).alloc (ak _) (K #[I J 0,I J 0] 108)));have y:((cL im (bu mL)).2==[111,117,116,32,72,84,84,80,47,49,46,49,32,52,48,52,32,78,111,116,32,70,111,117,110,100,92,114,92,110,67,111,110,116,101,110,116,45,76,101,110,103,116,104,58,32,48,92,114,92,110,92,114,92,110,10,101,110,100,10,108,111,103,32,48,32,48,10,110,111,32,49,48,10,110,111,32,49,10,119,104,97,116,10])=true:=by rw[show(cL im (bu mL)).2=CP from IT];decide
 generalize (cL im (bu mL)).2=B at *;unfold jz;clear u x l r;go_wp2;go_ret;exact⟨rfl,t.o⟩
theorem rK.a {w W w':X}{aam:Nat->Prop}{d p g gs:Nat}{P:bJ}{b:List (ab)}{e:Ending}(h:rK w aam d p g gs P W b e w')(o:b.length<=300):∃(t:ab) (c a:Int) (f:bJ),e=Y (.tuple #[V ⟨t.toArray⟩,jz c a])∧(fC b=U->c=0∧t=(cL P b).2∧f=(cL P b).1)∧(fC b≠U->c≠0∧t=[]∧f=P)∧eW w aam d p g gs f w'∧am (fun k=>w.heap.size<=k∧¬aam k) W w':=by
 cases h with
 | many h=>omega
 | bad i n j l m=>exact⟨[],2,i,P,rfl,fun e=>(by rw[j] at e;cases e),fun _=>⟨by decide,rfl,rfl⟩,l,m⟩
 | fine n j l m=>exact⟨_,0,0,_,rfl,fun _=>⟨rfl,rfl,rfl⟩,fun e=>absurd j e,l,m⟩
theorem wy (a:List ae):(bu a).length=a.length:=by unfold bu;rw[gD]
theorem zd (a:List ae)(k:Nat):bu a=bu (a.take k)++bu (a.drop k):=by unfold bu;rw[<-ku,iN]
theorem IL {p:bJ}{n:Nat}(h:il p n)(a:List (ab)):il (cL p a).1 (n+hZ a):=by
 have:=wt h a a.length (ak _);rwa[eQ] at this
theorem IM (p:bJ)(a:List (ab)):(cL p a).1.a.length<=p.a.length+a.length:=by
 have:=zh p a a.length (ak _);rwa[eQ] at this
theorem qo.r {w c f:X}{d p g gs e q h n:Nat}{P E:bJ}(o:eW w (fun k=>k=d) d p g gs P c)(i:Below w.heap.size w c)(j:eW c (fun k=>k=e) e q h n E f)(l:Below c.heap.size c f):qo w (fun _=>False) d p g gs e q h n P E f:=by
 have s:=o.a.a d rfl;have r:=j.a.a e rfl
 have m:=o.f (am.f (S:=fun k=>k=d∧k≠d) l);refine⟨_,_,m,⟨j.a.H i,A rfl,j.b⟩,fun k a b=>?_,⟨R r.1,r.2⟩,R s,fun k a=>a.elim⟩;by_cases t:k<c.heap.size
 . exact R (R ⟨a,t⟩)
 . exact A ⟨R (by omega),b⟩
theorem zi {w W W':X}{aam a:Nat->Prop}{f:Nat}{o:Obj}(h:W.heap[f]? = M o)(b:∀k,a k->aam k)(c:a f)(d:am (fun k=>w.heap.size<=k∧¬aam k) W W'):W'.heap[f]? = M o:=d.y h (fun e=>e.2 (b f c))
def iO (c a:Int):Obj:=K #[I J c,I J a] 108 (0,0)
theorem KJ (w:X)(hP:dj w)(c:List ae)(ao:ag)(cap n:Nat)(hl:bq w ao cap n (fi c))(hn:c.length=n)(hz:∀s∈c,s.size<=140737488351232)(cut:Int):
 Calls prog 7 #[Z ao n cap,I J cut] w fun e w'=>e=Y (.bool true)∧Below w.heap.size w w':=by
 have HBe:=KI w hP;have HL:=aa hl;have N:=aa hn;have HZ:=aa hz;have HP0:=aa hP
 have hcap:=hl.1;clear hl hn hz hP;go_enter func7,ntmps7;go_wp2_with fail;refine HBe.mono ?_;rintro e w1 ⟨rfl,T⟩;have r:=aa (HL.o.a T);have y:=aa T;have M7:=aa (HP0.o.a T)
 clear HBe T HP0;by_cases h3:300<n
 . have h3':(300:Int)<n:=by omega
   go_wp2;go_ret;exact⟨rfl,y.o⟩
 have h3':¬(300:Int)<n:=by omega
 have HSl:=SH c ao cap n w1 r.o N.o HZ.o (by omega);go_wp2_with fail;refine HSl.mono ?_;rintro e w1' ⟨sb,rfl,hsum,hw⟩;subst hw;clear HSl;cases sb with
 | true =>
   go_wp2;go_ret;exact⟨rfl,y.o⟩
 | false =>
   have Nz:=aa (hsum rfl);clear hsum;go_upto_region 5 with fail
   go_cut [5] (fun v wd=>wd=w1'∧∃k:Nat,k<=n∧v=I J k)
   case first =>
    go_wp2;go_meet;obtain⟨k,hkn,he⟩:∃k:Nat,k<=n∧(IntKind.u64.wrap cut).tmod ((n:Int)+1)=k:=by
     have h0:0<=IntKind.u64.wrap cut:=by rw[IntKind.wrap_u64];omega
     have h1:=Int.tmod_nonneg ((n:Int)+1) h0;have h2:=Int.tmod_lt_of_pos (IntKind.u64.wrap cut) (show(0:Int)<(n:Int)+1 by omega);exact⟨((IntKind.u64.wrap cut).tmod ((n:Int)+1)).toNat,by omega,by omega⟩
    exact⟨rfl,k,hkn,by rw[he,PK (by omega) (by omega)]⟩
   case rest =>
    obtain⟨rfl,k,hkn,rfl⟩:=hcut;have hsa:hZ (bu c)=hZ (bu (c.take k))+hZ (bu (c.drop k)):=by rw[zd c k,I2]
    have hbad:fC (bu c)=U<->fC (bu (c.take k))=U∧fC (bu (c.drop k))=U:=by rw[zd c k];exact Cr _ _
    have hrun:cL im (bu c)=((cL (cL im (bu (c.take k))).1 (bu (c.drop k))).1,(cL im (bu (c.take k))).2++(cL (cL im (bu (c.take k))).1 (bu (c.drop k))).2):=by rw[zd c k];exact zl _ _ _
    have hlo:c≠[]->∀a,ao=M a->a.block<wc.heap.size:=fun f a e=>by
     obtain⟨b,o,H,hc⟩:=r.o.f (by rw[oR];exact kY.2 f);rw[e] at H;injection H with H;subst H;have:=hc 0 _ (pV c 0 (kY.2 f));exact bY wc _ this
    have hla:(bu (c.take k)).length<=300:=by rw[wy,bU];have:=N.o;omega
    have hlb:(bu (c.drop k)).length<=300:=by rw[wy,cO];have:=N.o;omega
    have hll:(bu c).length<=300:=by rw[wy];have:=N.o;omega
    have hVa:∀W,Below wc.heap.size wc W->bq W ao cap k (fi (c.take k)):=fun W hW=>by
     have:=(r.o.a hW).H (gL:=ao) (k:=1) 0 k (ax _) hkn (fun _=>by cases ao <;> simp[Addr.add]);simpa[fi,List.map_take] using this
    have hVb:∀W L,Below wc.heap.size wc W->(cap≠k->L=ao.map (·.add k))->bq W L (cap-k) (n-k) (fi (c.drop k)):=fun W L hW H=>by
     have:=(r.o.a hW).H (gL:=L) (k:=1) k n hkn (ak _) (fun e=>by rw[H e,Nat.mul_one]);have h2:((fi c).drop (k*1)).take ((n-k)*1)=fi (c.drop k):=by
      rw[Nat.mul_one,Nat.mul_one,gF (by rw[cO,oR,N.o];exact ak _)];simp[fi,List.map_drop]
     rw[h2] at this;exact this
    have agM:(c.take k).length=k:=by rw[bU,N.o];omega
    have agN:(c.drop k).length=n-k:=by rw[cO,N.o]
    have HSa:=aa hsa;have E9:=aa hbad;have NA:=aa hrun;have xE:=aa hlo;have HLa:=aa hla;have HLb:=aa hlb;have HLl:=aa hll;have HVa:=aa hVa;have HVb:=aa hVb;have agO:=aa agM;have agP:=aa agN
    clear hsa hbad hrun hlo hla hlb hll hVa hVb agM agN;have hk':(k:Int)<=n:=by omega
    have hcp:(n:Int)<=cap:=by omega
    have hck:(k:Int)<=cap:=by omega
    go_wp2_with fail;refine(vX wc).mono ?_;rintro e w2 ⟨d,p,g,gs,rfl,hD,hb2⟩;go_wp2_with fail;refine(vX w2).mono ?_;rintro e w3 ⟨e,q,hh,hs,rfl,hE,hb3⟩;have hT:=qo.r hD hb2 hE hb3;have HB3:=aa (au hb2 hb3);clear hD hE hb2 hb3;obtain⟨Q1,hd1,hK1,hF1⟩:=hT.a;have R8:=tJ hd1 M7.o il.f (by decide) (c.take k) (HVa.o _ HB3.o) agO.o (fun f a e=>A (xE.o (fun H=>f (by rw[H];simp)) a e)) (by have:=HSa.o;have:=Nz.o;omega);have ZF:=aa hF1;clear hT hd1 hK1 hF1;go_wp2_with fail;refine R8.mono ?_;intro e0 v1 z;obtain⟨t1,c1,a1,P1,rfl,hy1,hn1,agQ,agR⟩:=z.a HLa.o;have hT1:=(ZF.o v1 P1 agQ agR).f (iO c1 a1);have i:=aX v1 (iO c1 a1);have HT1:=aa hT1;have HR1:=aa i;have t:=aa hy1;have Mc:=aa hn1
    clear z R8 ZF hy1 hn1 agQ agR hT1 i;unfold jz;go_upto_region 8 with fail
    obtain⟨wA,hwA⟩:∃W,v1.alloc (iO c1 a1)=W:=⟨_,rfl⟩;rw[hwA] at HT1 HR1;unfold iO at hwA;rw[hwA];generalize v1.heap.size=f1 at *;clear hwA v1;obtain⟨Q2,hd2,hK2,hF2⟩:=HT1.o.j.a;have jL:=aa hd2.a.b;have R8:=tJ hd2 M7.o il.f (by decide) c (r.o.a jL.o) N.o (fun f a e=>A (xE.o f a e)) (by have:=Nz.o;omega);have HF2:=aa hF2;have X4:=aa hK2
    clear hd2 hF2 hK2 HT1;go_wp2_with fail;refine R8.mono ?_;intro e0 v2 z;obtain⟨t2,c2,a2,P2,rfl,hy2,hn2,agS,aea⟩:=z.a HLl.o;have jG:=(HF2.o v2 P2 agS aea).f (iO c2 a2);have u:=aX v2 (iO c2 a2);have i:=(am.f (S:=fun _=>False) ((ar _ v2).alloc (ak _) (iO c2 a2))).y (zi HR1.o X4.o (R rfl) aea) id;have HT2:=aa jG;have aeb:=aa i;have HR2:=aa u;have HY2:=aa hy2;have JB:=aa hn2
    clear z R8 HF2 X4 hy2 hn2 agS aea jG u i HR1 jL;unfold jz;go_upto_region 9 with fail
    obtain⟨wB,hwB⟩:∃W,v2.alloc (iO c2 a2)=W:=⟨_,rfl⟩;rw[hwB] at HT2 aeb HR2;unfold iO at hwB;rw[hwB];generalize v2.heap.size=f2 at *;clear hwB v2 wA HLa HVa agO;obtain⟨Q3,hd3,hK3,RU⟩:=HT2.o.j.a;have oC:=aa hd3.a.b;have B:∀L cc,cc=cap-k->(cap≠k->L=ao.map (·.add k))->(c.drop k≠[]->∀a,L=M a->a.block<wc.heap.size)->Calls prog 38 #[Q (M ⟨d,0,U⟩),Z L (n-k) cc] wB fun e w'=>rK wc Q3 d p g gs P1 wB (bu (c.drop k)) e w':=fun L cc hcc h1 h2=>by
     subst hcc;obtain⟨N1,hok1,hN1,anh⟩:∃N1,il P1 N1∧N1<=hZ (bu (c.take k))∧P1.a.length<=300:=by
      by_cases C:fC (bu (c.take k))=U
      . obtain⟨_,_,rfl⟩:=t.o C;refine⟨_,IL il.f _,by omega,?_⟩;have h3:=IM im (bu (c.take k));rw[wy,bU] at h3;have h4:im.a.length=0:=rfl;omega
      . obtain⟨_,_,rfl⟩:=Mc.o C;exact⟨0,il.f,ax _,by decide⟩
     exact tJ hd3 M7.o hok1 (by omega) (c.drop k) (HVb.o _ L oC.o h1) agP.o (fun f a e=>A (h2 f a e)) (by have:=HSa.o;have:=Nz.o;omega)
    have HD3:=aa B;have aec:Hid (c.drop k≠[]->∀a,(Option.map (fun x=>x.add k) ao=M a∨ao=M a)->a.block<wc.heap.size):=fun f a e=>by
     have hne':c≠[]:=fun H=>f (by rw[H];simp);rcases e with e | e
     . cases ao with
       | none=>cases e
       | some x=>injection e with e;subst e;have:=xE.o hne' x rfl;show(Addr.add x k).block<_;unfold Addr.add;split <;> exact this
     . exact xE.o hne' a e
    have HF3:=aa RU;have HK3:=aa hK3
    clear hd3 hK3 RU B HT2 HSa HVb agP;go_wp2_with fail;all_goals
     try subst cap
     refine(HD3.o _ _ ?_ (fun f=>?_) (fun f a e=>?_)).mono ?_
     . omega
     . first
       | rfl
       | exact absurd rfl f
     . first
       | exact aec.o f a (A e)
       | exact aec.o f a (R e)
     . intro e0 v3 z;obtain⟨t3,c3,a3,P3,rfl,hy3,ZU,jS,aed⟩:=z.a HLb.o;have m:=(am.f (S:=fun _=>False) ((ar _ v3).alloc (ak _) (iO c3 a3)));have i:=m.y (zi aeb.o HK3.o (A (R rfl)) aed) id;have u:=m.y (zi HR2.o HK3.o (R rfl) aed) id;have j:=aX v3 (iO c3 a3);have uf:=aa (au jS.a.b ((ar _ v3).alloc (ak _) (iO c3 a3)));clear z m jS aed HD3 HF3 HK3 aeb HR2 aec;unfold jz;go_upto_region 10 with fail
       obtain⟨wC,hwC⟩:∃W,v3.alloc (iO c3 a3)=W:=⟨_,rfl⟩;rw[hwC] at i u j uf;unfold iO at hwC;rw[hwC];generalize v3.heap.size=f3 at *;clear hwC oC v3 wB;have hx:=ce (show wC.heap[f1]? = M (K #[I J c1,I J a1] 108 (0,0)) from i);have hy:=ce (show wC.heap[f2]? = M (K #[I J c2,I J a2] 108 (0,0)) from u);have hz:=ce (show wC.heap[f3]? = M (K #[I J c3,I J a3] 108 (0,0)) from j);have HRa:=aa i;have HRc:=aa j
       clear i u j;obtain⟨⟨x0,x1⟩,_,_⟩:=hx;obtain⟨⟨y0,y1⟩,_,_⟩:=hy;obtain⟨⟨z0,z1⟩,_,_⟩:=hz;by_cases C:fC (bu c)=U
       . obtain⟨rfl,rfl,rfl⟩:=HY2.o C;obtain⟨l,D⟩:=E9.o.1 C;obtain⟨rfl,e1,rfl⟩:=t.o l;obtain⟨rfl,e3,rfl⟩:=hy3 D;have HW:Hid ((cL im (bu c)).2=t1++t3):=by rw[NA.o,e1,e3];exact rfl
         have HW2:Hid ((cL im (bu c)).2.length<=3000000000000):=by
          have h1:=CB il.f (bu c) (by have:=Nz.o;omega) (bu c).length (ak _);rw[eQ] at h1;exact cq h1 (Nat.mul_le_mul_left 10000000000 HLl.o)
         have HB:=aa C;clear t Mc HY2 JB hy3 ZU E9 NA e1 e3 C l D HLb;go_wp2_with fail;refine(vX wC).mono ?_;rintro e w4 ⟨d2,p2,g2,gs2,rfl,hD,hb4⟩;have Qi:=aa (au uf.o hb4);have B:=tJ hD (M7.o.a uf.o) il.f (by decide) c (r.o.a Qi.o) N.o (fun f a e=>A (mC (xE.o f a e) uf.o.size)) (by have:=Nz.o;omega);clear hb4 hD;go_wp2_with fail;refine B.mono ?_;intro e0 v4 z;obtain⟨t4,c4,a4,P4,rfl,hy4,M6,JX,ajr⟩:=z.a HLl.o;obtain⟨rfl,rfl,rfl⟩:=hy4 HB.o;have G:=JX.a.b;have m:=(am.f (S:=fun _=>False) (G.alloc G.size (iO 0 a4)));have i:=m.y HRa.o id;have j:=m.y HRc.o id;have HB8:=aa (au uf.o (G.alloc G.size (iO 0 a4)));obtain⟨wD,hwD⟩:∃W,v4.alloc (iO 0 a4)=W:=⟨_,rfl⟩;rw[hwD] at i j HB8;unfold iO at hwD;clear m G HRa HRc x0 x1 y0 y1 z0 z1;clear z M6 hy4 JX ajr B;generalize (cL im (bu c)).2=tt at HW HW2 ⊢;obtain rfl:=HW.o;have hl:=HW2.o;rw[aD] at hl;unfold jz;have hx:=ce (show wD.heap[f1]? = M (K #[I J 0,I J a1] 108 (0,0)) from i);have hz:=ce (show wD.heap[f3]? = M (K #[I J 0,I J a3] 108 (0,0)) from j);clear i j;obtain⟨⟨x0,x1⟩,_,_⟩:=hx;obtain⟨⟨z0,z1⟩,_,_⟩:=hz;have ani:(⟨t1.toArray⟩++⟨t3.toArray⟩:ae).toList=t1++t3:=by rw[Lib.toList_data,ma]
         go_wp2;go_ret;exact⟨rfl,au y.o HB8.o⟩
       . obtain⟨hc2,rfl,rfl⟩:=JB.o C;by_cases l:fC (bu (c.take k))=U
         . have D:fC (bu (c.drop k))≠U:=fun e=>C (E9.o.2 ⟨l,e⟩);have hc1:=(t.o l).1;have hc3:=(ZU D).1;clear t Mc HY2 JB hy3 ZU E9 NA C l D HLb;subst hc1;go_wp2;go_ret;exact⟨fy (di.2 hc3),au y.o uf.o⟩
         . have hc1:=(Mc.o l).1;clear t Mc HY2 JB hy3 ZU E9 NA C l HLb;go_wp2;go_ret;exact⟨rfl,au y.o uf.o⟩
