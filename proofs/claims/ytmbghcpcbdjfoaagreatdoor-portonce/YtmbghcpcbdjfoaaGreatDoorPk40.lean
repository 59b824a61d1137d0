import Derived.Test.YtmbghcpcbdjfoaaGreatDoorPk39
import Derived.Lib.SlBytesConst
import Derived.Test.YtmbghcpcbdjfoaaGreatDoorRfReqs
open Go.Value renaming int->I,slice->Z,pointer->Q
open Go.IntKind renaming i64->J
open Go.Obj renaming cells->K
open Option renaming none->U,some->M
open Go renaming World->X
set_option maxHeartbeats 3200000
set_option maxRecDepth 100000
open Go.Proofs.Tryz
namespace Go.Proofs.YtmbghcpcbdjfoaaGreatDoor
open Go.RowKit
theorem ay.jD {w:X}{bo:ai}{cap:Nat}{l:ae}(h:ay w bo cap l)(b:l≠[])(a:Addr)(e:bo=M a):a.block<w.heap.size:=by
 have c:0<l.length:=kH.2 b;rw[e] at h;have:=bI w _ (h.q 0 c);rwa[oB] at this
theorem yy.j {w w':X}{b o:Nat}{x:di}{s:mP}(h:yy w b o x s){B:Nat}(a:Below B w w')(c:w.heap.size<=B):yy w' b o x s:=by
 have a:=a.mono c;exact⟨(a.cell (bI w _ h.d)).trans h.d,(a.cell (bI w _ h.e)).trans h.e,(a.cell (bI w _ h.f)).trans h.f,(a.cell (bI w _ h.a)).trans h.a,h.c.a a⟩
structure jW (w:X)(aaf:Nat->Prop)(p g gs:Nat)(P:cV)(wr:X):Prop where
 c:∃Pd,dr wr Pd p g gs P∧∀k,Pd k->w.heap.size<=k∧¬aaf k
 a:Below w.heap.size w wr
 b:∀k,aaf k->w.heap.size<=k∧k<wr.heap.size
section
variable {w wr W w':X} {aaf:Nat->Prop} {p g gs:Nat} {P:cV}
theorem jW.e (h:jW w aaf p g gs P wr)(a:Below wr.heap.size wr w'):jW w aaf p g gs P w':=by
 obtain⟨⟨c,d,f⟩,i,b⟩:=h;exact⟨⟨c,d.q a,f⟩,ar i a,fun k e=>⟨(b k e).1,ml (b k e).2 a.size⟩⟩
theorem jW.d (h:jW w aaf p g gs P wr)(a:al aaf wr w'):jW w (fun k=>(aaf k∨wr.heap.size<=k)∧k<w'.heap.size) p g gs P w':=by
 obtain⟨⟨f,i,b⟩,c,d⟩:=h;have n:=a.b;have j:=c.size;refine⟨⟨fun k=>f k∧k<wr.heap.size,(i.a (fun k l e=>⟨e,l⟩)).j a (fun k e m=>(b k e.1).2 m),fun k e=>⟨(b k e.1).1,fun q=>?_⟩⟩,c.trans (a.below (fun k e=>(d k e).1) c.size),fun k e=>⟨?_,e.2⟩⟩
 . rcases q.1 with q | q
   . exact(b k e.1).2 q
   . have:=e.2;omega
 . rcases e.1 with q | q
   . exact(d k q).1
   . omega
structure UQ (w:X)(aaf:Nat->Prop)(p g gs:Nat)(W:X)(r:cV×oj)(e:Ending)(w':X):Prop where
 b:∃(ao uo:ai) (jQ an gT un:Nat),e=.returned (.agg #[I J (r.2.a:Int),Z ao an jQ,Z uo un gT])∧an=r.2.c.length∧un=r.2.b.length∧ay w' ao jQ r.2.c∧ay w' uo gT r.2.b∧jW w (fun k=>aaf k∨(r.2.b≠[]∧au uo=M k)) p g gs r.1 w'
 a:jW w aaf p g gs r.1 w'
 c:al (fun k=>w.heap.size<=k∧¬aaf k) W w'
theorem jW.f (h:jW w aaf p g gs P wr)(j:Below wr.heap.size wr W)(hP:fu w){N:Nat}(ok:mF P N)(v:P.a.length<=1000000)(x:di){bo:ai}{gF nb:Nat}(hB:ay W bo gF x.b)(ug:x.b≠[]->∀a,bo=M a->a.block<w.heap.size∨wr.heap.size<=a.block)(hn:x.b.length=nb)(hl:N+nb<=20000):
 Calls prog 25 #[Q (M ⟨p,0,U⟩),.agg #[I J x.c,I J x.a,I J x.n,Z bo nb gF]] W fun e w'=>UQ w aaf p g gs W (dk P x) e w':=by
 obtain⟨⟨T,h1,l⟩,m,y⟩:=h;have hz:=j.size;have h5:dr W (fun k=>T k∧k<wr.heap.size) p g gs P:=(h1.a (fun _ hk e=>⟨e,hk⟩)).q j;refine(FH hP (ar m j) (fun i e=>(l i e.1).1) h5 ok v x hB (fun z a e q=>?_) hn hl).mono fun e w' d=>?_
 . rcases ug z a e with c | c
   . have:=(l _ q.1).1;omega
   . have:=q.2;omega
 . have B:=d.b.b;have o:=(ar m j).trans (d.b.below (fun i e=>(l i e.1).1) (ar m j).size);have C:∀k,aB (fun k=>T k∧k<wr.heap.size) W k->w.heap.size<=k∧¬aaf k:=fun k q=>by
    rcases q with q | q
    . exact l k q.1
    . exact⟨ce (ar m j).size q,fun c=>by have:=(y k c).2;omega⟩
   have r:∀k,aaf k->w.heap.size<=k∧k<w'.heap.size:=fun k q=>⟨(y k q).1,ml (y k q).2 (ce hz B)⟩;obtain⟨ao,D,jQ,an,gT,un,he,G,H,L,s,A2,S,t,u⟩:=d.d;refine⟨⟨ao,D,jQ,an,gT,un,he,G,H,L,s,⟨A2,S,fun k q=>⟨(C k (t k q)).1,fun c=>?_⟩⟩,o,fun k q=>?_⟩,⟨⟨_,d.c,C⟩,o,r⟩,d.b.e fun k q=>l k q.1⟩
   . rcases c with c | ⟨c,f⟩
     . exact(C k (t k q)).2 c
     . cases D with
       | none=>cases f
       | some a=>injection f with f;exact(u c a rfl).2 (by rw[f];exact q)
   . rcases q with q | ⟨c,f⟩
     . exact r k q
     . cases D with
       | none=>cases f
       | some a =>
         injection f with f;have h8:=(u c a rfl).1;have h9:=s.jD c a rfl;have h10:=f;have:=(ar m j).size;exact⟨by omega,by omega⟩
theorem jW.y (h:jW w aaf p g gs P wr):∃B,aY wr B gs P.s:=by
 obtain⟨⟨c,a,d⟩,_,_⟩:=h;obtain⟨B,b,_⟩:=a.e;exact⟨B,b⟩
theorem jW.r (h:jW w aaf p g gs P wr):wr.cell? ⟨p,0,U⟩=M (Q (M ⟨g,0,U⟩))∧wr.cell? ⟨g,0,U⟩=M (Q (M ⟨gs,0,U⟩)):=by
 obtain⟨⟨b,a,c⟩,_,_⟩:=h;exact a.d
theorem jW.j {a:X}(c:Below w.heap.size w a)(h:dr wr (fun k=>a.heap.size<=k∧k<wr.heap.size) p g gs P)(b:Below a.heap.size a wr):jW w (fun _=>False) p g gs P wr :=
 ⟨⟨_,h,fun _ e=>⟨ce c.size e.1,fun q=>q⟩⟩,ar c b,fun _ e=>e.elim⟩
end
section
variable {w wr W w':X} {aaf:Nat->Prop} {p g gs:Nat} {P:cV}
theorem jW.q (h:jW w aaf p g gs P wr)(a:P.a.length<=1000000):
 Calls prog 28 #[Q (M ⟨p,0,U⟩)] wr fun e w'=>∃ao cap,e=.returned (Z ao P.a.length cap)∧Below wr.heap.size wr w':=by
 obtain⟨⟨m,b,o⟩,q,r⟩:=h;obtain⟨c,d,f,i,j,_,_,_⟩:=b.y;have k:=LT P.a c d P.a.length wr f.a rfl a;generalize P.a.length=n at *;go_enter func28,ntmps28;go_wp2_with fail;refine k.mono ?_;rintro e s ⟨ao,cap,rfl,_,l⟩;go_wp2;go_ret;exact⟨ao,cap,rfl,l⟩
end
theorem TC {P:Program}{f:FuncId}{a:Array Value}{W W':X}{aaf:Ending->X->Prop}(e:W=W')(h:Calls P f a W' aaf):Calls P f a W aaf:=e▸h
theorem Uy (W:X):ay (W.alloc (K (bD pU).toArray 5 (73,74))) (M ⟨W.heap.size,0,U⟩) 73 pU:=by
 refine⟨ak _,(fun e=>by cases e),fun j a=>⟨_,rfl,?_⟩⟩;refine(bx.d W (bD pU).toArray 73 5 (73,74)).j ?_;exact lI pU j a
theorem Sz {W:X}{ao:ai}{cap n:Nat}{l:ae}(h:ay W ao cap l)(a:n=l.length):(convert 31 9 (Z ao n cap)).run prog W=.ok (.string ⟨l.toArray⟩) W:=by
 subst a;exact h.r (P:=prog) 31 9 5 underlying31 underlying5 underlying9
theorem al.E {S:Nat->Prop}{W W':X}{b:Nat}{a x1 x2:Value}(h:al S W W')(c:W.heap[b]? = M (rf a x1 x2))(d:¬S b):W'.heap[b]? = M (rf a x1 x2):=h.j c d
theorem xd {W:X}{b:Nat}{c x1 x2:Value}(a:W.heap[b]? = M (rf c x1 x2)):W.cell? ⟨b,0,U⟩=M c∧W.cell? ⟨b,1,U⟩=M x1∧W.cell? ⟨b,2,U⟩=M x2:=⟨am W b 0 _ _ _ a,am W b 1 _ _ _ a,am W b 2 _ _ _ a⟩
theorem LU (w:X)(hP:fu w):
 Calls prog 21 #[] w fun e w'=>e=.returned (.bool true)∧Below w.heap.size w w':=by
 have kc:=fun(w:X) (C:Array Value) (n c:Nat)=>Lib.run_convert_bytes_const (P:=prog) w 31 5 C n c underlying31 underlying5;go_enter func21,ntmps21;go_wp2_with fail;refine(ET w).mono ?_;rintro e w1 ⟨p,g,gs,rfl,hP1,hb1⟩;have HL:=jW.j (aq _ w) hP1 hb1;have D:=mF.f;have G:=D.e ko;have ok2:=G.e mH;have tr1:=Bj dj ko;have tr2:=Bj (dk dj ko).1 mH;have tr0:dj.a.length=0:=rfl;have H:=HL.f ((aq _ w1).alloc (ak _) (K (bD pU).toArray 5 (73,74))) hP D (by omega) ko (Uy w1) (fun _ a e=>by injection e with e;subst e;exact Or.inr (ak _)) (rfl:pU.length=73) (by decide);obtain⟨a1,a2,a3⟩:=N7;obtain⟨b1,b2⟩:=N8;obtain⟨d1,d2⟩:=N1;have L:=tr1;have afL:=aa tr2;have am4:=aa G;have KI:=aa ok2
 have HA:=(And.intro a1 (And.intro a2 a3));have N:=aa (And.intro b1 b2);have Pb:=aa (And.intro d1 d2)
 have hx1:ko.c=1∧ko.a=0∧ko.n=0:=⟨rfl,rfl,rfl⟩;generalize dk dj ko=R1 at *;go_wp2_with fail;refine TC (W':=w1.alloc (K (bD pU).toArray 5 (73,74))) (mg w1.alloc (by rfl)) ?_;refine H.mono ?_;rintro e T ⟨⟨ao,uo,jQ,an,gT,un,rfl,han,hun,hI1,hI2,Ze⟩,y,kD⟩;rw[HA.1];have asv:0<an:=by rw[han];exact HA.2.1
 have ta:=aV (by omega);have hb2:=(aq _ T).alloc (ak _) (K #[I J 0,Z ao an jQ,Z uo un gT] 70);have v:=y.d (al.d (S:=fun _=>False) hb2);have b:=bw T (K #[I J 0,Z ao an jQ,Z uo un gT] 70);have hs2:(T.alloc (K #[I J 0,Z ao an jQ,Z uo un gT] 70)).heap.size=T.heap.size+1:=ch ..;have HD2:=v.f (aq _ _) hP am4.o (by have:=L;have:dj.a.length=0:=rfl;omega) mH (bo:=U) (gF:=0) (nb:=0) (ay.d _) (fun q=>absurd rfl q) rfl (by decide);have j:=N.o;have HR1:=aa b;have HS2:=aa hs2
 have hl0:=HL.a.size;have hl2:=y.a.size;clear y v kD hI1 hI2 han hun b hs2 H HA N;generalize dk R1.1 mH=R2 at *;go_wp2_with fail;generalize (T.alloc (K #[I J 0,Z ao an jQ,Z uo un gT] 70))=W2 at *;refine HD2.mono ?_;rintro e w3 ⟨⟨jB,i,Um,m,OO,un2,rfl,am5,ajC,hJ1,z,hL3⟩,asy,pW⟩;rw[j.1];have hne:R2.2.b≠[]:=by rw[j.2];decide
 rw[j.2] at ajC z;obtain rfl:un2=58:=ajC;have r:=(aq _ w3).alloc (ak _) (K #[I J 0,Z jB m Um,Z i 58 OO] 70);have x:=hL3.d (al.d (S:=fun k=>(_:Prop)) r);have b:=pW.E HR1.o (fun e=>e.2 ⟨Or.inr (ak _),by have:=HS2.o;omega⟩);have d:=bw w3 (K #[I J 0,Z jB m Um,Z i 58 OO] 70);have hz3:=pW.b;have hs3:(w3.alloc (K #[I J 0,Z jB m Um,Z i 58 OO] 70)).heap.size=w3.heap.size+1:=ch ..;have hlt1:=(bH.1 b).1;have am6:=(r.block _ hlt1).trans b;have HJ2:=z.a r;have HD3:=x.f (aq _ _) hP KI.o (by have:=L;have:=afL.o;have:dj.a.length=0:=rfl;omega) mH (bo:=U) (gF:=0) (nb:=0) (ay.d _) (fun q=>absurd rfl q) rfl (by decide);have HR2:=d;have Au:=aa hs3;have XE:=aa hne
 clear hne hL3 x pW hJ1 z am5 b d hs3 HD2 j r HR1;generalize dk R2.1 mH=R3 at *;go_wp2_with fail;generalize (w3.alloc (K #[I J 0,Z jB m Um,Z i 58 OO] 70))=W3 at *;refine HD3.mono ?_;rintro e w4 ⟨⟨lu,s,Un,t,Uo,u,rfl,am7,am8,hK1,hK2,hK3⟩,B,yA⟩;clear am7 am8 hK1 hK2 hK3;rw[Pb.o.1];have f:=(aq _ w4).alloc (ak _) (K #[I J 19,Z lu t Un,Z s u Uo] 70);have b:=yA.E am6 (fun e=>e.2 ⟨Or.inl (Or.inl ⟨Or.inr (ak _),by have:=HS2.o;omega⟩),by have:=Au.o;omega⟩);have d:=yA.E HR2 (fun e=>e.2 ⟨Or.inr (ak _),by have:=Au.o;omega⟩);have hr3:=bw w4 (K #[I J 19,Z lu t Un,Z s u Uo] 70);have c10:=xd ((f.block _ (bH.1 b).1).trans b);have c20:=xd ((f.block _ (bH.1 d).1).trans d);have c30:=xd hr3;have HJ4:=Sz (W:=w4.alloc (K #[I J 19,Z lu t Un,Z s u Uo] 70)) (ao:=i) (cap:=OO) (l:=Gj) (n:=58) ((HJ2.e yA (fun a e e2=>e2.2 ⟨Or.inl (Or.inr ⟨XE.o,by rw[e];rfl⟩),HJ2.jD (by decide) a e⟩)).a f) rfl;have zS:=(B.e f).q (by rw[Pb.o.2];decide);rw[Pb.o.2] at zS;have kF:=ar B.a f;clear b d hr3 B yA f HD3;go_upto_region 5 with fail
 generalize (w4.alloc (K #[I J 19,Z lu t Un,Z s u Uo] 70))=W4 at *;go_wp2_with fail;refine zS.mono ?_;rintro e w5 ⟨ta,tc,rfl,hb5⟩;have oP:=ar kF hb5;go_wp2;go_ret;exact⟨rfl,oP⟩
structure ID (w:X)(l:List di)(ao:ai)(cap:Nat):Prop where
 b:px w ao cap l
 c:fu w
