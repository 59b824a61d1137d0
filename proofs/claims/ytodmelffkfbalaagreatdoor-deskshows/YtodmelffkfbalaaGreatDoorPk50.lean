import Derived.Test.YtodmelffkfbalaaGreatDoorPk49
import Derived.Lib.SlBytesConst
import Derived.Test.YtodmelffkfbalaaGreatDoorRfReqs
open Go.Value renaming int->I,string->V,slice->Z,pointer->Q
open Go.IntKind renaming i64->J
open Go.Obj renaming cells->K
open Go.Ending renaming returned->Y
open Option renaming none->U,some->M
open Or renaming inl->A
open Go renaming World->X
set_option maxHeartbeats 3200000
set_option maxRecDepth 100000
open Go.Proofs.Tryz
namespace Go.Proofs.YtodmelffkfbalaaGreatDoor
open Go.RowKit
theorem az.qg {w:X}{bo:ag}{cap:Nat}{l:ab}(h:az w bo cap l)(b:l≠[])(a:Addr)(e:bo=M a):a.block<w.heap.size:=by
 have c:0<l.length:=mC.2 b;rw[e] at h;have:=ch w _ (h.j 0 c);rwa[oj] at this
structure lV (w:X)(aaw:Nat->Prop)(p g gs:Nat)(P:cu)(wr:X):Prop where
 c:∃Pd,dr wr Pd p g gs P∧∀k,Pd k->w.heap.size<=k∧¬aaw k
 b:Below w.heap.size w wr
 a:∀k,aaw k->w.heap.size<=k∧k<wr.heap.size
section
variable {w wr W w':X} {aaw:Nat->Prop} {p g gs:Nat} {P:cu}
theorem lV.r (h:lV w aaw p g gs P wr)(a:Below wr.heap.size wr w'):lV w aaw p g gs P w':=by
 obtain⟨⟨c,d,f⟩,i,b⟩:=h;exact⟨⟨c,d.r a,f⟩,au i a,fun k e=>⟨(b k e).1,nC (b k e).2 a.size⟩⟩
theorem lV.q (h:lV w aaw p g gs P wr)(a:ak aaw wr w'):lV w (fun k=>(aaw k∨wr.heap.size<=k)∧k<w'.heap.size) p g gs P w':=by
 obtain⟨⟨f,i,b⟩,c,d⟩:=h;have n:=a.b;have j:=c.size;refine⟨⟨fun k=>f k∧k<wr.heap.size,(i.f (fun k l e=>⟨e,l⟩)).q a (fun k e m=>(b k e.1).2 m),fun k e=>⟨(b k e.1).1,fun q=>?_⟩⟩,c.trans (a.below (fun k e=>(d k e).1) c.size),fun k e=>⟨?_,e.2⟩⟩
 . rcases q.1 with q | q
   . exact(b k e.1).2 q
   . have:=e.2;omega
 . rcases e.1 with q | q
   . exact(d k q).1
   . omega
structure Ha (w:X)(aaw:Nat->Prop)(p g gs:Nat)(W:X)(r:cu×mn)(e:Ending)(w':X):Prop where
 b:∃(ao uo:ag) (jC an gQ un:Nat),e=Y (.agg #[I J (r.2.a:Int),Z ao an jC,Z uo un gQ])∧an=r.2.b.length∧un=r.2.c.length∧az w' ao jC r.2.b∧az w' uo gQ r.2.c∧lV w (fun k=>aaw k∨(r.2.c≠[]∧aw uo=M k)) p g gs r.1 w'
 a:lV w aaw p g gs r.1 w'
 c:ak (fun k=>w.heap.size<=k∧¬aaw k) W w'
theorem lV.y (h:lV w aaw p g gs P wr)(j:Below wr.heap.size wr W)(hP:di w){N:Nat}(ok:jI P N)(v:P.a.length<=1000000)(x:kN){bo:ag}{fV nb:Nat}(hB:az W bo fV x.b)(tT:x.b≠[]->∀a,bo=M a->a.block<w.heap.size∨wr.heap.size<=a.block)(hn:x.b.length=nb)(hl:N+nb<=20000):
 Calls prog 28 #[Q (M ⟨p,0,U⟩),.agg #[I J x.c,I J x.a,I J x.n,Z bo nb fV]] W fun e w'=>Ha w aaw p g gs W (gR P x) e w':=by
 obtain⟨⟨T,h1,l⟩,m,y⟩:=h;have hz:=j.size;have h5:dr W (fun k=>T k∧k<wr.heap.size) p g gs P:=(h1.f (fun _ hk e=>⟨e,hk⟩)).r j;refine(SI hP (au m j) (fun i e=>(l i e.1).1) h5 ok v x hB (fun z a e q=>?_) hn hl).mono fun e w' d=>?_
 . rcases tT z a e with c | c
   . have:=(l _ q.1).1;omega
   . have:=q.2;omega
 . have B:=d.b.b;have o:=(au m j).trans (d.b.below (fun i e=>(l i e.1).1) (au m j).size);have C:∀k,ay (fun k=>T k∧k<wr.heap.size) W k->w.heap.size<=k∧¬aaw k:=fun k q=>by
    rcases q with q | q
    . exact l k q.1
    . exact⟨co (au m j).size q,fun c=>by have:=(y k c).2;omega⟩
   have r:∀k,aaw k->w.heap.size<=k∧k<w'.heap.size:=fun k q=>⟨(y k q).1,nC (y k q).2 (co hz B)⟩;obtain⟨ao,D,jC,an,gQ,un,he,G,H,L,s,A2,S,t,u⟩:=d.d;refine⟨⟨ao,D,jC,an,gQ,un,he,G,H,L,s,⟨A2,S,fun k q=>⟨(C k (t k q)).1,fun c=>?_⟩⟩,o,fun k q=>?_⟩,⟨⟨_,d.c,C⟩,o,r⟩,d.b.f fun k q=>l k q.1⟩
   . rcases c with c | ⟨c,f⟩
     . exact(C k (t k q)).2 c
     . cases D with
       | none=>cases f
       | some a=>injection f with f;exact(u c a rfl).2 (by rw[f];exact q)
   . rcases q with q | ⟨c,f⟩
     . exact r k q
     . cases D with
       | none=>cases f
       | some a =>
         injection f with f;have h8:=(u c a rfl).1;have h9:=s.qg c a rfl;have h10:a.block=k:=f;have:=(au m j).size;exact⟨by omega,by omega⟩
theorem lV.f (h:lV w aaw p g gs P wr):∃B,aT wr B gs P.s:=by
 obtain⟨⟨c,a,d⟩,_,_⟩:=h;obtain⟨B,b,_⟩:=a.e;exact⟨B,b⟩
theorem lV.e (h:lV w aaw p g gs P wr):wr.cell? ⟨p,0,U⟩=M (Q (M ⟨g,0,U⟩))∧wr.cell? ⟨g,0,U⟩=M (Q (M ⟨gs,0,U⟩)):=by
 obtain⟨⟨b,a,c⟩,_,_⟩:=h;exact a.a
theorem lV.B {a:X}(c:Below w.heap.size w a)(h:dr wr (fun k=>a.heap.size<=k∧k<wr.heap.size) p g gs P)(b:Below a.heap.size a wr):lV w (fun _=>False) p g gs P wr :=
 ⟨⟨_,h,fun _ e=>⟨co c.size e.1,fun q=>q⟩⟩,au c b,fun _ e=>e.elim⟩
end
theorem lV.j {w wr:X}{aaw Q':Nat->Prop}{p g gs:Nat}{P:cu}(h:lV w aaw p g gs P wr)(a:∀k,Q' k->aaw k):lV w Q' p g gs P wr:=by
 obtain⟨⟨c,d,b⟩,f,i⟩:=h;exact⟨⟨c,d,fun k e=>⟨(b k e).1,fun q=>(b k e).2 (a k q)⟩⟩,f,fun k e=>i k (a k e)⟩
def Je (p:Nat):Obj:=K #[Q (M ⟨p,0,U⟩)] 161 (0,0)
structure ic (w:X)(aaw:Nat->Prop)(d p g gs:Nat)(P:cu)(wr:X):Prop where
 a:lV w aaw p g gs P wr
 c:aaw d
 b:wr.heap[d]? = M (Je p)
section
variable {w wr w':X} {aaw Q':Nat->Prop} {d p g gs:Nat} {P:cu}
theorem ic.r (h:ic w aaw d p g gs P wr)(a:Below wr.heap.size wr w'):ic w aaw d p g gs P w' :=
 ⟨h.a.r a,h.c,(a.block d (bM.1 h.b).1).trans h.b⟩
theorem ic.j (h:ic w aaw d p g gs P wr)(a:∀k,Q' k->aaw k)(hd:Q' d):ic w Q' d p g gs P wr:=⟨h.a.j a,hd,h.b⟩
theorem ic.e (h:ic w aaw d p g gs P wr)(a:ak (fun k=>aaw k∧k≠d) wr w'):ic w (fun k=>(aaw k∨wr.heap.size<=k)∧k<w'.heap.size) d p g gs P w':=by
 have b:=(bM.1 h.b).1;have c:=a.b;exact⟨h.a.q (a.f fun k e=>e.1),⟨A h.c,by omega⟩,a.q h.b (fun e=>e.2 rfl)⟩
theorem ic.f (h:ic w aaw d p g gs P wr):wr.cell? ⟨d,0,U⟩=M (Q (M ⟨p,0,U⟩)):=aq wr d 0 _ _ _ h.b
theorem SJ (w:X):Calls prog 36 #[] w fun e w'=>∃d p g gs,e=Y (Q (M ⟨d,0,U⟩))∧ic w (fun k=>k=d) d p g gs mZ w'∧Below w.heap.size w w':=by
 go_enter func36,ntmps36;go_wp2_with fail;refine(Q8 w).mono ?_;rintro e c ⟨p,g,gs,rfl,f,a⟩;have j:=lV.B (ar _ w) f a;have b:=(ar _ c).alloc (am _) (K #[Q (M ⟨p,0,U⟩)] 161);have i:=(j.q (ak.e (S:=fun _=>False) b)).j (Q':=fun k=>k=c.heap.size) (fun k e=>⟨Or.inr (by omega),by rw[bu];omega⟩);have l:Hid (ic w (fun k=>k=c.heap.size) c.heap.size p g gs mZ (c.alloc (K #[Q (M ⟨p,0,U⟩)] 161))):=⟨i,rfl,be c _⟩;have m:=aa (au a b);clear f a j b i;go_wp2;go_ret;exact⟨_,p,g,gs,rfl,l.o,m.o⟩
end
theorem Jh (x y z:ae)(a:x.size+y.size+z.size<=9999999):(([32]:ab).intercalate ([x,y,z].map (·.data.toList))).length<=100000000000:=by
 have:=cA x;have:=cA y;have:=cA z
 simp[List.intercalate,List.intersperse] at *;omega
theorem Jc {W:X}(a b c:ae)(t:Nat):∀(j:Nat) z,[a,b,c][j]? = M z->(W.alloc (K #[V a,V b,V c] t (0,0))).cell? ⟨W.heap.size,j,U⟩=M (V z):=fun j z d=>by
 have h:=be W (K #[V a,V b,V c] t (0,0));match j,d with
 | 0,d=>injection d with d;subst d;exact aq _ _ 0 _ _ _ h
 | 1,d=>injection d with d;subst d;exact aq _ _ 1 _ _ _ h
 | 2,d=>injection d with d;subst d;exact aq _ _ 2 _ _ _ h
 | j+3,d=>simp at d
section
variable {w wr w':X} {aaw Q':Nat->Prop} {d p g gs N:Nat} {P:cu}
structure yV (w:X)(aaw:Nat->Prop)(d p g gs:Nat)(W:X)(r:cu×ab)(e:Ending)(w':X):Prop where
 c:e=Y (V ⟨r.2.toArray⟩)
 b:ic w aaw d p g gs r.1 w'
 a:ak (fun k=>w.heap.size<=k∧¬aaw k) W w'
theorem yV.e {t:ab}(h:ic w aaw d p g gs P wr)(a:Below wr.heap.size wr w'):yV w aaw d p g gs wr (P,t) (Y (V ⟨t.toArray⟩)) w':=⟨rfl,h.r a,ak.e a⟩
theorem ic.q (h:ic w aaw d p g gs P wr):wr.cell? ⟨d,0,U⟩=M (Q (M ⟨p,0,U⟩))∧wr.cell? ⟨p,0,U⟩=M (Q (M ⟨g,0,U⟩))∧wr.cell? ⟨g,0,U⟩=M (Q (M ⟨gs,0,U⟩)):=⟨h.f,h.a.e.1,h.a.e.2⟩
theorem Rc (h:ic w aaw d p g gs P wr)(hP:di w)(ok:jI P N)(htr:P.a.length<=1000000)(s:ae)(hl:N+s.size<=20000):
 Calls prog 85 #[Q (M ⟨d,0,U⟩),V s] wr fun e w'=>yV w aaw d p g gs wr (jA P s.data.toList) e w':=by
 obtain⟨k0,k1,k2⟩:=h.q;have hbe:=h.a.b;obtain⟨y,f⟩:∃y,jA P s.data.toList=y:=⟨_,rfl⟩;rw[f];unfold jA at f;have T:=cA s;have HE:∀k,(s.data.toList=k->(s.toList==k)=true)∧(s.data.toList≠k->(s.toList==k)=false):=fun k=>by
  rw[Lib.toList_data];exact⟨fun h=>cJ.2 h,fun h=>aO.2 h⟩
 have Dr:=aa (hP.a hbe);by_cases e0:s.data.toList=[]
 . rw[if_pos e0] at f;have hz:s.size=0:=by rw[<-T,e0];rfl
   obtain rfl:=ql s hz;have HF:=aa (yV.e h (t:=[]) (ar _ wr));rw[f] at HF;clear h k0 k1 k2 HE;go_enter func85,ntmps85;go_wp2;go_ret;exact HF.o
 have u0:=qm s (Nat.pos_of_ne_zero fun e=>e0 (xQ.1 (by rw[T];exact e)))
 rw[if_neg e0] at f;by_cases e1:s.data.toList=[108,105,115,116]
 . rw[if_pos e1] at f;have u1:=(HE [108,105,115,116]).1 e1;obtain⟨B,gl,kp,C,ca,aaY,hI⟩:=h.a.f;have c3:wr.cell? ⟨gs,0,U⟩=M (Q (M ⟨gl,0,U⟩)):=aq wr gs 0 _ _ _ hI.a;have HLi:=Rb hI.d ok.s.h ok.s.q Dr.o k0 k1 k2 c3;have HF:=aa (fun w' hb=>yV.e h (t:=qp P.s.h.l) (w':=w') hb);rw[f] at HF;have hR2:y=(P,qp P.s.h.l):=f.symm;clear h k0 k1 k2 HE hI c3;go_enter func85,ntmps85;go_wp2_with fail;refine HLi.mono ?_;rintro e u ⟨rfl,hb⟩;have HB:=aa (HF.o _ hb);clear hb HLi;go_wp2;go_ret;exact HB.o
 rw[if_neg e1] at f;have u1:=(HE [108,105,115,116]).2 e1;by_cases e2:s.data.toList=[108,111,103]
 . rw[if_pos e2] at f;have u2:=(HE [108,111,103]).1 e2;obtain⟨B,hSt⟩:=h.a.f;have HLg:=QJ hSt;have hf1:=ok.s.b;have hf2:=ok.s.d
   obtain⟨D,hln⟩:∃D,P.s.a.length=D:=⟨_,rfl⟩;have YB:=aa (fun(n:Nat) (hn:n<1000000000) (W:X) (hP:di W)=>mD n hn W hP);have HF:=aa (fun w' hb=>yV.e h (t:=fN [[108,111,103],jf P.s.a.length,jf P.s.b]) (w':=w') hb);rw[f] at HF;rw[hln] at HLg hf1 hf2 f;have h9:=(gz 8 D).1;have h8:=(gz 8 P.s.b).1
   have HT:Hid (y.2=fN ([⟨#[108,111,103]⟩,⟨(bw 8 D).toArray⟩,⟨(bw 8 P.s.b).toArray⟩].map (fun x:ae=>x.data.toList))):=by unfold Hid;rw[<-f];rfl
   have hz9:(⟨(bw 8 D).toArray⟩:ae).size<=9:=by show(bw 8 D).toArray.size<=9;rw[cx];exact h9
   have hz8:(⟨(bw 8 P.s.b).toArray⟩:ae).size<=9:=by show(bw 8 P.s.b).toArray.size<=9;rw[cx];exact h8
   have HLm:Hid (D<1000000000∧P.s.b<1000000000):=⟨by omega,by omega⟩;generalize P.s.b=sn at *;clear h HE hSt hf1 hf2 hln f h9 h8;go_enter func85,ntmps85;go_wp2_with fail;refine HLg.mono ?_;rintro e u ⟨OJ,ca1,rfl,_,q⟩;have HB1:=aa q;clear q HLg;go_wp2_with fail;refine(YB.o D HLm.o.1 _ (Dr.o.a HB1.o)).mono ?_;rintro e w2 ⟨rfl,b⟩;have HB2:=aa (au HB1.o b);clear b;go_wp2_with fail;refine(YB.o sn HLm.o.2 _ (Dr.o.a HB2.o)).mono ?_;rintro e G ⟨rfl,hb3⟩;have HB3:=aa (au (au HB2.o hb3) ((ar _ G).alloc (am _) (K #[V ⟨#[108,111,103]⟩,V ⟨(bw 8 D).toArray⟩,V ⟨(bw 8 sn).toArray⟩] 9)));have UQ:=pZ [⟨#[108,111,103]⟩,⟨(bw 8 D).toArray⟩,⟨(bw 8 sn).toArray⟩] G.heap.size 3 (G.alloc (K #[V ⟨#[108,111,103]⟩,V ⟨(bw 8 D).toArray⟩,V ⟨(bw 8 sn).toArray⟩] 9)) rfl (by decide) (Jc _ _ _ _) (Jh _ _ _ (by show 3+_+_<=_;omega)) (by decide);rw[<-HT.o] at UQ;clear hb3;go_wp2_with fail;refine UQ.mono ?_;rintro e w4 ⟨rfl,c⟩;have jH:=aa (HF.o _ (au HB3.o c));clear c UQ;go_wp2;go_ret;exact⟨rfl,jH.o.b,jH.o.a⟩
 rw[if_neg e2] at f;have u2:=(HE [108,111,103]).2 e2;have mG:=Oj s wr (by omega) Dr.o;have hlen:=fun x hx=>zg (l:=s.data.toList) (x:=x) hx;have v:=aa h;have sw:=aa ok;have Cj:=aa htr;have HP:=aa hP
 generalize qr s.data.toList=O at *;have HRd:=aa f;have HLen:=aa hlen;have ZY:=aa T
 clear h ok htr hP HE f hlen T e0 e1 e2 k0 k1 k2;go_enter func85,ntmps85;go_wp2_with fail;refine mG.mono ?_;intro e u r;clear mG;cases r with
 | no r q =>
   subst r;have HB1:=aa q;clear q;unfold mP;have b:=(ar _ u).alloc (am _) (K #[I J 0,I J 0,I J 0,Z U 0 0] 73);have UQ:=pZ [⟨#[119,104,97,116]⟩] (u.alloc (K #[I J 0,I J 0,I J 0,Z U 0 0] 73)).heap.size 1 ((u.alloc (K #[I J 0,I J 0,I J 0,Z U 0 0] 73)).alloc (K #[V ⟨#[119,104,97,116]⟩] 9)) rfl (by decide) (fun j z hj=>by
    match j,hj with
    | 0,hj=>injection hj with hj;subst hj;exact aq _ _ 0 _ _ _ (be _ _)
    | j+1,hj=>simp at hj) (by decide) (by decide)
   rw[show(u.alloc (K #[I J 0,I J 0,I J 0,Z U 0 0] 73)).heap.size=u.heap.size+1 from bu ..] at UQ;have HB3:=aa (au (au HB1.o b) ((ar _ _).alloc (am _) (K #[V ⟨#[119,104,97,116]⟩] 9)));clear b;go_wp2_with fail;refine UQ.mono ?_;rintro e w4 ⟨rfl,c⟩;have jH:=aa (au HB3.o c);clear c UQ;go_wp2;go_ret;rw[<-HRd.o];exact yV.e v.o jH.o
 | yes x C H m r hm hO q =>
   subst r;have b:=(ar _ u).alloc (am _) (K #[I J x.c,I J x.a,I J x.n,Z C m H] 73);have hr2:=be u (K #[I J x.c,I J x.a,I J x.n,Z C m H] 73);have L:=au (au q b) (bg _ _);have hxl:=HLen.o x rfl;rw[ZY.o] at hxl;have HDo:=v.o.a.y L HP.o sw.o Cj.o x (((hO.r b).r (bg _ _)).f) (fun _ a e=>Or.inr (hO.e a e).1) hm.symm (by omega);have hq0:=(L.cell (ch wr _ v.o.f)).trans v.o.f;obtain⟨⟨z0,z1,z2,z3⟩,_⟩:=dW ((bg (u.alloc (K #[I J x.c,I J x.a,I J x.n,Z C m H] 73)).heap.size _).block _ (by rw[bu];omega) |>.trans hr2);have hRw:=(L.block d (bM.1 v.o.b).1).trans v.o.b;have HX:Hid (∀e G,Ha w aaw p g gs (u.alloc (K #[I J x.c,I J x.a,I J x.n,Z C m H] 73)).drew (gR P x) e G->∃(C uo:ag) (jC an gQ un:Nat),e=Y (.agg #[I J ((gR P x).2.a:Int),Z C an jC,Z uo un gQ])∧Calls prog 143 #[.agg #[I J ((gR P x).2.a:Int),Z C an jC,Z uo un gQ]] G fun e w'=>yV w aaw d p g gs wr y e w'):=fun e G r=>by
    obtain⟨⟨C,uo,jC,an,gQ,un,he,han,hun,hI1,hI2,_⟩,hat,hT⟩:=r;refine⟨C,uo,jC,an,gQ,un,he,?_⟩;have h1:=Fy sw.o.s x;have h2:=Fz P x;have h3:=N3 P x
    have hTT:ak (fun k=>w.heap.size<=k∧¬aaw k) wr G:=(ak.e L).a hT (fun i e _=>e);refine(Sq G (gR P x).2 han hun hI1 hI2 (HP.o.a hat.b) (by omega) (by omega) (by omega)).mono ?_;rintro e w4 ⟨rfl,c⟩;rw[<-HRd.o];refine⟨rfl,⟨hat.r c,v.o.c,(c.block d (bM.1 (hTT.q v.o.b (fun e=>e.2 v.o.c))).1).trans (hTT.q v.o.b (fun e=>e.2 v.o.c))⟩,hTT.a (ak.e (S:=fun k=>w.heap.size<=k∧¬aaw k) c) (fun i e _=>e)⟩
   clear q b hr2 L hxl hO hRw v sw Cj HLen HRd hm;generalize (gR P x).2.a=cd at *;go_upto_region 12 with fail
   generalize (u.alloc (K #[I J x.c,I J x.a,I J x.n,Z C m H] 73))=W2 at *;go_region_law (first
    | (go_simp;go_at_call 28;refine HDo.mono ?_;intro e G r;obtain⟨lN,uo3,ak4,an3,ak5,un3,rfl,HCo⟩:=HX.o e G r;have HC:=aa HCo;clear r HCo)
    | (go_simp;go_at_call 143;refine HC.o.mono ?_;intro e w4 r;have HM:=aa r;obtain rfl:=r.c;clear r))
   all_goals
    go_wp2;go_ret;exact HM.o
end
theorem IQ (l:ab)(c:UInt8):0<=Lib.indexByte l c<->c∈l:=by
 constructor
 . intro h;obtain⟨o,a⟩:∃o:Nat,Lib.indexByte l c=o:=⟨(Lib.indexByte l c).toNat,by omega⟩;exact nD (Lib.indexByte_some a).1
 . intro h;obtain⟨j,b,e⟩:=List.mem_iff_getElem.1 h;refine sJ fun f=>?_;have:=Lib.indexByte_ge l c;have d:Lib.indexByte l c=-1:=by omega
   exact Lib.indexByte_none d j (by rw[iA b,e])
theorem Ml (s:ae)(c:UInt8)(w:X):
 Calls prog 137 #[V s,V ⟨#[c]⟩] w fun e w'=>e=Y (I J (Lib.indexByte s.data.toList c))∧w'=w:=by
 have a:=Hq s c w;go_enter func137,ntmps137;go_wp2_with fail;refine a.mono ?_;rintro e w' ⟨rfl,b⟩;subst b;go_wp2;go_ret;exact⟨rfl,rfl⟩
theorem KV (s:ae)(c:UInt8)(w:X):
 Calls prog 83 #[V s,V ⟨#[c]⟩] w fun e w'=>e=Y (.bool (decide (c∈s.data.toList)))∧w'=w:=by
 have b:=Ml s c w;have a:decide (0<=Lib.indexByte s.data.toList c)=decide (c∈s.data.toList):=decide_eq_decide.2 (IQ _ _);have d:=aa a;clear a;generalize Lib.indexByte s.data.toList c=r at *;go_enter func83,ntmps83;go_wp2_with fail;refine b.mono ?_;rintro e w' ⟨rfl,f⟩;subst f;go_wp2;go_ret;exact⟨fy d.o,rfl⟩
def dL (ls:List ae):List (ab):=ls.map (·.data.toList)
def mO (c a:Int):Value:=.agg #[I J c,I J a]
inductive xC (w:X)(aaw:Nat->Prop)(d p g gs:Nat)(P:cu)(W:X)(ls:List (ab)):Ending->X->Prop
 | many {w'}:300<ls.length->ic w aaw d p g gs P w'->ak (fun k=>w.heap.size<=k∧¬aaw k) W w'->xC w aaw d p g gs P W ls (Y (.tuple #[V ⟨#[]⟩,mO 8 (-1)])) w'
 | bad {w'} (i:Nat):ls.length<=300->nL ls=M i->ic w aaw d p g gs P w'->ak (fun k=>w.heap.size<=k∧¬aaw k) W w'->xC w aaw d p g gs P W ls (Y (.tuple #[V ⟨#[]⟩,mO 2 i])) w'
 | fine {w'}:ls.length<=300->nL ls=U->ic w aaw d p g gs (dY P ls).1 w'->ak (fun k=>w.heap.size<=k∧¬aaw k) W w'->xC w aaw d p g gs P W ls (Y (.tuple #[V ⟨(dY P ls).2.toArray⟩,mO 0 0])) w'
theorem CM:∀(a:List (ab)) (i:Nat) (b:i<a.length),(∀l∈a.take i,10∉l)->10∈a[i]->nL a=M i
 | l :: r, 0, _, _, h => by
   have h:(10:UInt8)∈l:=h;show(if 10∈l then M 0 else _)=_;rw[if_pos h]
 | l :: r, i + 1, b, hn, h => by
   show(if 10∈l then M 0 else (nL r).map (·+1))=_;rw[if_neg (hn l (by simp)),CM r i (by simpa using b) (fun x c=>hn x (by simp[c])) h];rfl
theorem Cz:∀(a:List (ab)),(∀l∈a,10∉l)->nL a=U
 | [],_=>rfl
 | l :: r, h => by
   show(if 10∈l then M 0 else (nL r).map (·+1))=_;rw[if_neg (h l (by simp)),Cz r (fun x b=>h x (by simp[b]))];rfl
section
variable {w wv w':X} {aaw Q':Nat->Prop} {d p g gs N:Nat} {P:cu}
theorem CN {W:X}{g t:Nat}{c f:Value}(h:W.heap[g]? = M (K #[c,f] t (0,0)))(a b:Value):
 ((W.setCell ⟨g,0,U⟩ a).setCell ⟨g,1,U⟩ b).heap[g]? = M (K #[a,b] t (0,0))∧ak (fun k=>k=g) W ((W.setCell ⟨g,0,U⟩ a).setCell ⟨g,1,U⟩ b) :=
 ⟨aR _ g 1 _ _ b (aR W g 0 _ _ a h),(ak.j (fun k=>k=g) W ⟨g,0,U⟩ a rfl).a (ak.j (fun k=>k=g) (W.setCell ⟨g,0,U⟩ a) ⟨g,1,U⟩ b rfl) (fun _ e _=>e)⟩
theorem yX (x y:ab):(fN [x,y]).length=x.length+y.length+2:=by simp[fN,List.intercalate,List.intersperse];omega
theorem IT (o:mn)(a:o.b.length<=1000000000)(b:o.c.length<=8000):(rO o).length<=9000000000:=by
 have:=(gz 8 o.a).1;have:=mN o.b;have:=mN o.c
 unfold rO jf;repeat' split
 . rw[yX];simp only[bF,iy];omega
 . rw[yX];simp only[bF,iy];omega
 . rw[yX];simp only[bF,iy];omega
 . decide
theorem IW {P:cu}{N:Nat}(ok:jI P N){l:ab}(e:l.length<=20000):(jA P l).2.length<=10000000000:=by
 unfold jA;split
 . exact ax _
 split
 . have:=wm P.s.h.l 12 ok.s.h.b (fun u a=>(ok.s.h.a u a).b);show(qp P.s.h.l).length<=_;unfold qp;rw[aD,show(fN [[101,110,100]]).length=4 from rfl];omega
 split
 . have:=(gz 8 P.s.a.length).1;have:=(gz 8 P.s.b).1
   simp[fN,jf,List.intercalate,List.intersperse];omega
 split
 . exact Nat.le_of_ble_eq_true rfl
 . rename_i x b;have f:=Fy ok.s x;have c:=Fz P x;have i:=zg b
   exact co (IT _ (by omega) c) (by omega)
theorem SX (h:ic w aaw d p g gs P wv)(hP:di w)(ok:jI P N)(htr:P.a.length<=900000)(b:List ae){lo:ag}{iB n:Nat}(H:bx wv lo iB n (jb b))(hn:b.length=n)(hlo:b≠[]->∀a,lo=M a->a.block<w.heap.size∨aaw a.block)(hsum:N+pp (dL b)<=20000):
 Calls prog 38 #[Q (M ⟨d,0,U⟩),Z lo n iB] wv fun e w'=>xC w aaw d p g gs P wv (dL b) e w':=by
 have hb1:=(ar _ wv).alloc (am _) (K #[I J 0,I J 0] 108);have hr1:=be wv (K #[I J 0,I J 0] 108);have hz1:=bu wv (K #[I J 0,I J 0] 108);have hd1:=h.e (ak.e (S:=fun k=>aaw k∧k≠d) hb1);have B:=h.a.a;have hdl:d<wv.heap.size:=(B d h.c).2;have hwz:=h.a.b.size;have HLn:Hid (∀W,ak (fun k=>w.heap.size<=k∧¬aaw k) wv W->bx W lo iB n (jb b)):=fun W hT=>by
  by_cases hne:b=[]
  . subst hne;exact⟨H.1,H.2.1,fun j u hj=>by simp[jb] at hj⟩
  . exact H.r hT (fun a e q=>by
     rcases hlo hne a e with q2 | q2
     . omega
     . exact q.2 q2)
 have s:Hid (ak (fun k=>w.heap.size<=k∧¬aaw k) wv (wv.alloc (K #[I J 0,I J 0] 108))):=ak.e hb1;obtain⟨W1,hW1⟩:∃W1,wv.alloc (K #[I J 0,I J 0] 108)=W1:=⟨_,rfl⟩;have HQ:Hid (∀k,aaw k->k<wv.heap.size):=fun k e=>(B k e).2;have ZV:Hid (∀c a:Int,((W1.setCell ⟨wv.heap.size,0,U⟩ (I J c)).setCell ⟨wv.heap.size,1,U⟩ (I J a)).heap[wv.heap.size]? = M (K #[I J c,I J a] 108 (0,0))∧ic w aaw d p g gs P ((W1.setCell ⟨wv.heap.size,0,U⟩ (I J c)).setCell ⟨wv.heap.size,1,U⟩ (I J a))∧ak (fun k=>w.heap.size<=k∧¬aaw k) wv ((W1.setCell ⟨wv.heap.size,0,U⟩ (I J c)).setCell ⟨wv.heap.size,1,U⟩ (I J a))):=fun c a=>by
  rw[<-hW1];obtain⟨h1,h2⟩:=CN hr1 (I J c) (I J a);have hz:=h2.b;have h3:=hd1.e (h2.f (S':=fun k=>((aaw k∨wv.heap.size<=k)∧k<(wv.alloc (K #[I J 0,I J 0] 108)).heap.size)∧k≠d) (fun k e=>by subst e;exact⟨⟨Or.inr (am _),by omega⟩,by omega⟩));refine⟨h1,h3.j (fun k e=>?_) h.c,s.o.a h2 (fun i e hi=>by subst e;omega)⟩;have:=HQ.o k e;exact⟨A ⟨A e,by omega⟩,by omega⟩
 obtain⟨⟨z0,z1⟩,f0,f1⟩:=cD hr1;have HH:=aa h;have HD1:=aa hd1;have sw:=aa ok;have HP:=aa hP;have Cj:=aa htr;have agN:=aa hsum;have HN:=aa hn;have C:=aa hz1;have HR1:=aa hr1
 have HDl:=aa hdl;have HWz:=aa hwz
 have hcap:=H.1;clear h hd1 ok hP htr hsum hn H hlo hb1 B hz1 hdl hwz hr1;go_enter func38,ntmps38;go_upto_region 1 with fail
 rw[hW1] at HD1 s C HR1 z0 z1 f0 f1;clear hW1;by_cases h3:300<n
 . have h3':(300:Int)<n:=by omega
   obtain⟨f,m,r⟩:=ZV.o 8 (-1);have L:=aa f;have T:=aa m;have HTF:=aa r
   clear f m r ZV;go_wp2;generalize ((W1.setCell ⟨wv.heap.size,0,U⟩ _).setCell ⟨wv.heap.size,1,U⟩ _)=wf at *;obtain⟨⟨r0,r1⟩,_⟩:=cD L.o;refine aS (v:=.tuple #[V ⟨#[]⟩,mO 8 (-1)]) (by simp[results,results38,go_sem,r0,r1,mO]) rfl ?_;exact .many (by unfold dL;rw[iv,HN.o];exact h3) T.o HTF.o
 have h3':¬(300:Int)<n:=by omega
 have HL3:Hid ((dL b).length<=300):=by unfold Hid dL;rw[iv,HN.o];omega
 go_wp2;go_loopw [17] (fun v17 W=>W=W1∧∃i:Nat,i<=n∧v17=I J i∧∀l∈(dL b).take i,(10:UInt8)∉l) (fun v _=>n-(intOf v).toNat)
 case atStart=>exact⟨rfl,0,ax _,rfl,fun l hl=>by simp at hl⟩
 case round =>
  obtain⟨rfl,i,hi,rfl,hno⟩:=hrel;have oD:=aa hno;clear hno;by_cases hlt:i<n
  . have hil:i<b.length:=by rw[HN.o];exact hlt
    have aej:i<(dL b).length:=by unfold dL;rw[iv];exact hil
    obtain⟨bb,oo,rfl,hc⟩:=(HLn.o _ s.o).f (by rw[vG];omega);have hlt':(i:Int)<n:=by omega
    have ci:=hc i _ (vW b i hil);have hgi:(dL b)[i]=b[i].data.toList:=by simp[dL]
    have HC:=KV b[i] 10 wr;have HB:Hid (10∈b[i].data.toList->nL (dL b)=M i):=fun e=>CM _ i aej oD.o (by rw[hgi];exact e);have Ry:Hid (10∉b[i].data.toList->∀l∈(dL b).take (i+1),(10:UInt8)∉l):=fun e l hl=>by
     rw[fR aej,eJ,cW] at hl;rcases hl with hl | rfl
     . exact oD.o l hl
     . rw[hgi];exact e
    clear hc hgi aej;generalize b[i]=x at *;by_cases hx:(10:UInt8)∈x.data.toList
    . rw[bq hx] at HC;obtain⟨f,m,r⟩:=ZV.o 2 i;have L:=aa f;have T:=aa m;have HTF:=aa r
      clear f m r ZV HLn;go_wp2_with fail;refine HC.mono ?_;rintro e w2 ⟨rfl,hw⟩;subst hw;go_wp2;generalize ((w2.setCell ⟨wv.heap.size,0,U⟩ _).setCell ⟨wv.heap.size,1,U⟩ _)=wf at *;obtain⟨⟨r0,r1⟩,_⟩:=cD L.o;refine aS (v:=.tuple #[V ⟨#[]⟩,mO 2 i]) (by simp[results,results38,go_sem,r0,r1,mO]) rfl ?_;exact .bad i HL3.o (HB.o hx) T.o HTF.o
    . rw[aX hx] at HC;have HN3:=aa (Ry.o hx);clear Ry HB;go_wp2_with fail;refine HC.mono ?_;rintro e w2 ⟨rfl,hw⟩;subst hw;go_wp2;go_roundw
      case rel=>exact⟨trivial,i+1,by omega,by go_num,HN3.o⟩
      case measure=>simp[intOf];omega
  . obtain rfl:i=n:=by omega
    rw[hZ (by unfold dL;rw[iv,HN.o];exact am _)] at oD;have Yf:=aa (Cz _ oD.o);have t:=(ar _ wr).alloc (am _) (K #[Q U,Z U 0 0] 167);have hd2:=HD1.o.e (ak.e (S:=fun k=>((aaw k∨wv.heap.size<=k)∧k<wr.heap.size)∧k≠d) t);have hbd:=ky.f wr;have hr2:=(t.block wv.heap.size (by have:=C.o;omega)).trans HR1.o;have jG:=s.o.a (ak.e (S:=fun k=>w.heap.size<=k∧¬aaw k) t) (fun i e _=>e);have hs2:=bu wr (K #[Q U,Z U 0 0] 167);obtain⟨W2,hW2⟩:∃W2,wr.alloc (K #[Q U,Z U 0 0] 167)=W2:=⟨_,rfl⟩;rw[hW2] at hd2 hbd hr2 jG hs2;have HD2:=aa hd2;have abI:=aa hbd;have HR2:=aa hr2;have HT2:=aa jG;have HS2:=aa hs2;have HW2:=aa hW2
    clear t hd2 hbd hr2 jG hs2 hW2 ZV oD z0 z1 f0 f1 HR1 HD1 s;have Uj:=aa (show(dL b).length=i by unfold dL;rw[iv,HN.o]);have HZr:=aa (show d<wr.heap.size by have:=HDl.o;have:=C.o;omega);have D:=aa (show wv.heap.size<wr.heap.size by have:=C.o;omega);have HQ2:Hid (∀k,aaw k->((((aaw k∨wv.heap.size<=k)∧k<wr.heap.size)∨wr.heap.size<=k)∧k<W2.heap.size)):=fun k e=>by
     have:=HQ.o k e;have:=C.o;have:=HS2.o
     exact⟨A ⟨A e,by omega⟩,by omega⟩
    clear C HQ;go_upto_region 10 with fail
    rw[HW2.o];have HD0:=aa HH.o.c;clear HW2 HH;generalize wr.heap.size=bz at *;go_wp2;go_loopw [29] (fun v29 W=>∃(j:Nat) (Qj:Nat->Prop),j<=i∧v29=I J j∧ic w Qj d p g gs (dY P ((dL b).take j)).1 W∧(∀k,aaw k->Qj k)∧Qj wv.heap.size∧ky W (fun k=>bz<=k∧Qj k) bz (dY P ((dL b).take j)).2∧ak (fun k=>w.heap.size<=k∧¬aaw k) wv W∧W.heap[wv.heap.size]? = M (K #[I J 0,I J 0] 108 (0,0))∧(dY P ((dL b).take j)).2.length<=10000000000*j) (fun v _=>i-(intOf v).toNat)
    case atStart=>exact⟨0,_,ax _,rfl,HD2.o,HQ2.o,⟨A ⟨Or.inr (am _),D.o⟩,by have:=HS2.o;have:=D.o;omega⟩,abI.o.a (fun k hk e=>⟨e,Or.inr e,hk⟩),HT2.o,HR2.o,ax _⟩
    case round =>
     obtain⟨j,Qj,hj,rfl,hD,hQj,hQf,hB,hT,hF,z⟩:=hrel;by_cases hlt2:j<i
     . have hjl:j<b.length:=by rw[HN.o];exact hlt2
       have aek:j<(dL b).length:=by rw[Uj.o];exact hlt2
       obtain⟨bb,oo,rfl,hc⟩:=(HLn.o _ hT).f (by rw[vG];omega);have ak7:(j:Int)<i:=by omega
       have cj:=hc j _ (vW b j hjl);have hgj:(dL b)[j]=b[j].data.toList:=by simp[dL]
       have hok:=CK sw.o (dL b) j (by omega);have htr:=CL P (dL b) j (by omega);have hs1:=CI (dL b) j aek;have hs2:=I6 (dL b) (j+1);have hrun:=zb P (dL b) j aek;have hzl:=cA b[j];rw[hgj,hzl] at hs1;rw[hgj] at hrun;have HM:=Rc hD HP.o hok (by have:=Cj.o;omega) b[j] (by have:=agN.o;omega);have hml:=IW hok (l:=b[j].data.toList) (by have:=agN.o;omega);have HBz:=aa hB.e;have ael:=aa hrun;have HMl:=aa hml;have HD:=aa hD;have HB:=aa hB;have HT:=aa hT;have HF:=aa hF;have HLen:=aa z;have HQj:=aa hQj;have HQf:=aa hQf
       clear hc hgj hok htr hs1 hs2 hrun hzl hml hD hB hT hF z aek hQj hQf;generalize dY P ((dL b).take j)=pj at *;generalize b[j]=x at *;generalize jA pj.1 x.data.toList=aaT at *;go_wp2_with fail;refine HM.mono ?_;intro e w1 ho;have hB1:=HB.o.q ho.a (fun k e e2=>e2.2 e.2);have HW:=C5 hB1 ⟨aaT.2.toArray⟩ (by show _+aaT.2.toArray.size<=_;rw[cx];have:=HLen.o;have:=HMl.o;have:=h3';omega);have HF1:=aa (ho.a.q HF.o (fun e=>e.2 HQf.o));have s:=aa (HT.o.a ho.a (fun k e _=>⟨e.1,fun q=>e.2 (HQj.o k q)⟩));have ZU:=aa ho.b;have CJ:=aa ho.a.b
       obtain rfl:=ho.c;clear ho hB1 HM HB HF HT;go_wp2_with fail;refine HW.mono ?_;rintro e w2 ⟨rfl,t,ht2⟩;have hsz2:=ht2.b;have hd3:=ZU.o.e (ht2.f (S':=fun k=>Qj k∧k≠d) (fun k e=>⟨e.2,by have:=HZr.o;omega⟩));have HD3:=aa hd3;have HB2:=aa t;have HT2:=aa ht2;have Du:=aa hsz2
       clear hd3 t ht2 hsz2 HW ZU;go_wp2;go_roundw
       case rel =>
        refine⟨j+1,fun k=>(Qj k∨w1.heap.size<=k)∧k<w2.heap.size,by omega,by go_num,?_,fun k q=>?_,?_,?_,?_,?_,?_⟩
        . rw[ael.o];exact HD3.o
        . refine⟨A (HQj.o k q),?_⟩;have:=HD.o.a.a k (HQj.o k q);have:=CJ.o;have:=Du.o;omega
        . refine⟨A HQf.o,?_⟩;have:=HD.o.a.a _ HQf.o;have:=CJ.o;have:=Du.o;omega
        . rw[ael.o];exact HB2.o.a (fun k hk e=>by
           rcases e with e | e
           . exact⟨e.1,A e.2,hk⟩
           . refine⟨?_,Or.inr e,hk⟩;have:=CJ.o;have:=HBz.o;omega)
        . exact s.o.a HT2.o (fun k e hk=>by have:=D.o;omega)
        . exact HT2.o.q HF1.o (fun e=>by have:=D.o;have:=e.1;omega)
        . rw[ael.o,aD];have:=HLen.o;have:=HMl.o;omega
       case measure=>simp[intOf];omega
     . obtain rfl:j=i:=by omega
       rw[hZ (by rw[Uj.o];exact am _)] at hD hB z;have ZC:=C6 hB (by omega);have HX:Hid (∀G,ak (fun k=>bz<=k∧Qj k) wr G->(G.cell? ⟨wv.heap.size,0,U⟩=M (I J 0)∧G.cell? ⟨wv.heap.size,1,U⟩=M (I J 0))∧(G.frozen? ⟨wv.heap.size,0,U⟩=false∧G.frozen? ⟨wv.heap.size,1,U⟩=false)∧((G.setCell ⟨wv.heap.size,0,U⟩ (I J 0)).setCell ⟨wv.heap.size,1,U⟩ (I J 0)).heap[wv.heap.size]? = M (K #[I J 0,I J 0] 108 (0,0))∧ic w aaw d p g gs (dY P (dL b)).1 ((G.setCell ⟨wv.heap.size,0,U⟩ (I J 0)).setCell ⟨wv.heap.size,1,U⟩ (I J 0))∧ak (fun k=>w.heap.size<=k∧¬aaw k) wv ((G.setCell ⟨wv.heap.size,0,U⟩ (I J 0)).setCell ⟨wv.heap.size,1,U⟩ (I J 0))):=fun G y=>by
        have YK:=y.q hF (fun e=>by have:=D.o;have:=e.1;omega);obtain⟨hz,hfz⟩:=cD YK;obtain⟨h1,h2⟩:=CN YK (I J 0) (I J 0);have hs3:=y.b;have hs4:=h2.b
        have B:=hD.a.a;have hd3:=hD.e (y.f (S':=fun k=>Qj k∧k≠d) (fun k e=>⟨e.2,by have:=HZr.o;omega⟩));have hd4:=hd3.e (h2.f (S':=fun k=>((Qj k∨wr.heap.size<=k)∧k<G.heap.size)∧k≠d) (fun k e=>by subst e;exact⟨⟨A hQf,by have:=(B _ hQf).2;omega⟩,by have:=HDl.o;omega⟩));refine⟨hz,hfz,h1,hd4.j (fun k q=>?_) (HD0.o),?_⟩
        . have:=(B k (hQj k q)).2;exact⟨A ⟨A (hQj k q),by omega⟩,by omega⟩
        . exact(hT.a y (fun k e hk=>by have:=D.o;omega)).a h2 (fun k e hk=>by omega)
       clear hD hB hT hF z HD2 abI HR2 HT2 HS2 hQj hQf;go_wp2_with fail;refine ZC.mono ?_;rintro e G ⟨rfl,y⟩;obtain⟨⟨z0,z1⟩,⟨f0,f1⟩,f,m,r⟩:=HX.o G y;have L:=aa f;have T:=aa m;have HTF:=aa r
       clear f m r HX y ZC;go_wp2;generalize ((G.setCell ⟨wv.heap.size,0,U⟩ _).setCell ⟨wv.heap.size,1,U⟩ _)=wf at *;obtain⟨⟨r0,r1⟩,_⟩:=cD L.o;refine aS (v:=.tuple #[V ⟨(dY P (dL b)).2.toArray⟩,mO 0 0]) (by simp[results,results38,go_sem,r0,r1,mO]) rfl ?_;exact .fine HL3.o Yf.o T.o HTF.o
end
theorem KW (w:X)(z:di w):
 Calls prog 34 #[] w fun e w'=>e=Y (.bool true)∧Below w.heap.size w w':=by
 go_enter func34,ntmps34;go_wp2_with fail;refine(SJ w).mono ?_;rintro e q ⟨d,p,g,C,rfl,c,f⟩;have b:=(ar _ q).alloc (am _) (K (jb mM).toArray 9);have j:=c.e (ak.e (S:=fun k=>k=d∧k≠d) b);have r:=bu q (K (jb mM).toArray 9);have l:=SX j z jI.f (by decide) mM (n:=6) (bx.e q (jb mM).toArray 6 9 (0,0)) rfl (fun _ a e=>by injection e with e;subst e;exact Or.inr ⟨Or.inr (am _),by show q.heap.size<_;omega⟩) (by decide);have s:=aa (au f b);clear c j r f b;go_wp2_with fail;refine l.mono ?_;intro e v x;obtain⟨rfl,m⟩:e=Y (.tuple #[V ⟨(dY mZ (dL mM)).2.toArray⟩,mO 0 0])∧Below w.heap.size w v:=by
  have t:=s.o.size;cases x with
  | many h=>exact absurd h (by decide)
  | bad i _ h=>rw[show nL (dL mM)=U from I8] at h;cases h
  | fine _ _ _ y=>exact⟨rfl,s.o.trans (y.below (fun k e=>e.1) t)⟩
 have u:=aa (au m ((ar _ v).alloc (am _) (K #[I J 0,I J 0] 108)));have y:((dY mZ (dL mM)).2==[111,117,116,32,72,84,84,80,47,49,46,49,32,52,48,52,32,78,111,116,32,70,111,117,110,100,92,114,92,110,67,111,110,116,101,110,116,45,76,101,110,103,116,104,58,32,48,92,114,92,110,92,114,92,110,10,101,110,100,10,108,111,103,32,48,32,48,10,110,111,32,49,48,10,110,111,32,49,10,119,104,97,116,10])=true:=by rw[show(dY mZ (dL mM)).2=CT from I7];decide
 generalize (dY mZ (dL mM)).2=B at *;unfold mO;clear l x m s;go_wp2;go_ret;exact⟨rfl,u.o⟩
theorem tS.a {w w':X}{l:ab}{e:Ending}(h:tS w l e w'):∃(ao:ag) (cap m:Nat),e=Y (.tuple #[Z ao m cap,.bool (fD l).isSome])∧m=((fD l).getD []).length∧az w' ao cap ((fD l).getD [])∧Below w.heap.size w w':=by
 cases h with
 | no a c=>exact⟨U,0,0,by rw[a];rfl,by rw[a];rfl,by rw[a];exact az.e _,c⟩
 | yes b ao cap m a c d f=>exact⟨ao,cap,m,by rw[a];rfl,by rw[a];exact c,by rw[a];exact d.f,f⟩
theorem KX (w:X)(hP:di w)(b:ab)(ao:ag)(cap n:Nat)(hb:az w ao cap b)(hn:b.length=n)(s:ae):
 Calls prog 8 #[Z ao n cap,V s] w fun e w'=>e=Y (.bool true)∧Below w.heap.size w w':=by
 have H:=KW w hP;have HI:=aa hb;have L:=aa hn
 clear hb hn;go_enter func8,ntmps8;go_wp2_with fail;refine H.mono ?_;rintro e w1 ⟨rfl,i⟩;have j:=aa (HI.o.a i);have m:=aa i
 clear H i;by_cases h1:3000<n
 . have N:(3000:Int)<n:=by omega
   go_wp2;go_ret;exact⟨rfl,m.o⟩
 by_cases h2:3000<s.size
 . have N:¬(3000:Int)<n:=by omega
   have h2':(3000:Int)<s.size:=by omega
   go_wp2;go_ret;exact⟨rfl,m.o⟩
 have N:¬(3000:Int)<n:=by omega
 have h2':¬(3000:Int)<s.size:=by omega
 have hsl:=mN b;have p:=yz w1 b ao cap n j.o L.o (by omega);obtain⟨t,ht⟩:∃t:ae,t=⟨(dd b).toArray⟩:=⟨_,rfl⟩;have c:t.data.toList=dd b:=by rw[ht]
 have S:t.size=(dd b).length:=by rw[<-cA t,c]
 have T:fD t.data.toList=M b:=by rw[c];exact CA b
 have acQ:∀(k:Nat) (h:k<t.size),32<=t[k].toNat∧t[k].toNat<=126:=fun k h=>IY (l:=b) _ (by
  rw[<-c,<-ol t k h];exact eX _)
 have hM1:=fun W=>(zm s W (by omega));have hM2:=fun W=>(Rd s W (by omega));have Wm:=fun W=>(zm t W (by have:=L.o;omega));have q:=aa (fun W (h:az W ao cap b)=>Rf W b ao cap n h L.o (by omega));rw[<-ht] at p q;have agT:=aa acQ;have HMt:=aa T
 obtain⟨mo,hmo⟩:∃mo,fD s.data.toList=mo:=⟨_,rfl⟩;have V8:=aa hmo;clear hsl ht c acQ T hmo HI;go_wp2_with fail;refine p.mono ?_;rintro e w2 ⟨rfl,r⟩;have HI2:=aa (j.o.a r);have HB2:=aa (au m.o r)
 clear p r j;go_wp2_with fail;refine(hM1 _).mono ?_;intro e w3 g;obtain⟨xo,xc,xn,rfl,u,hx,x⟩:=g.a;rw[V8.o] at u hx ⊢;have HI3:=aa (HI2.o.a x);have HB3:=aa (au HB2.o x);have HX3:=aa hx;have HXn:=aa u
 clear g x hx u HI2 hM1;go_wp2_with fail;refine(hM2 _).mono ?_;intro e w4 g;obtain⟨yo,yc,yn,rfl,y,hy,f⟩:=g.a;rw[V8.o] at y hy ⊢;have HI4:=aa (HI3.o.a f);have jH:=aa (au HB3.o f);have HX4:=aa (HX3.o.a f);have HY4:=aa hy;have HYn:=aa y
 clear g f hy y HI3 HX3 hM2;go_wp2_with fail;refine(Wm _).mono ?_;intro e w5 g;obtain⟨zo,zc,zn,rfl,z,hz,d⟩:=g.a;rw[HMt.o] at z hz ⊢;have B:=aa (HI4.o.a d);have oG:=aa (au jH.o d);have HX5:=aa (HX4.o.a d);have HY5:=aa (HY4.o.a d);have C:=aa hz;have D:=aa z
 clear g d hz z HI4 HX4 HY4 Wm;simp only[Option.isSome_some,Option.getD_some] at C D ⊢;generalize mo.isSome=ok at *;generalize mo.getD []=mv at *;go_wp2_with fail;refine(q.o _ B.o).mono ?_;rintro e w6 ⟨rfl,a⟩;have wL:=aa (au oG.o a);have NG:=Ie w6 xo yo xc yc xn yn mv mv HXn.o.symm HYn.o.symm (HX5.o.a a) (HY5.o.a a);have G:=Ie w6 zo ao zc cap zn n b b D.o.symm L.o (C.o.a a) (B.o.a a);simp only[decide_true] at NG G;clear a B HX5 HY5 C;have HTz:=aa S;have c:t.size<=12000:=by have:=mN b;have:=L.o;omega
 clear S HMt V8 q;go_wp2_with fail;refine NG.mono ?_;rintro e w7 ⟨rfl,hw⟩;subst hw;go_wp2_with fail;refine G.mono ?_;rintro e w7 ⟨rfl,hw⟩;subst hw;clear NG G HXn HYn D;go_wp2;go_loopw [12] (fun v12 W=>W=w7∧∃k:Nat,k<=t.size∧v12=I J k) (fun v _=>t.size-(intOf v).toNat)
 case atStart=>exact⟨rfl,0,ax _,rfl⟩
 case round =>
  obtain⟨rfl,k,hk,rfl⟩:=hrel;by_cases hlt:k<t.size
  . obtain⟨g1,g2⟩:=agT.o k hlt;have hlt':(k:Int)<t.size:=by omega
    have g1':¬(t[k].toNat:Int)<32:=by omega
    have g2':¬(126:Int)<(t[k].toNat:Int):=by omega
    go_wp2;go_roundw
    case rel=>exact⟨trivial,k+1,by omega,by go_num⟩
    case measure=>simp[intOf];omega
  . obtain rfl:k=t.size:=by omega
    go_wp2;go_ret;exact⟨rfl,wL.o⟩
