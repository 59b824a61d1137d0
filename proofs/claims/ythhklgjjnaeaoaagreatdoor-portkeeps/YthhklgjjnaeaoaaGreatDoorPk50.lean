/- Small texts, one behind the other: GaQ, GaR, GaT, PoG, PoH, PoLwA, PoLwK. -/
import Derived.Test.YthhklgjjnaeaoaaGreatDoorPk49
import Derived.Lib.SlBytesConst
import Derived.Test.YthhklgjjnaeaoaaGreatDoorRfReqs
open Go.Value renaming int->I,slice->Z,pointer->Q
open Go.IntKind renaming i64->J
open Go.Obj renaming cells->K
open Go.Ending renaming returned->Y
open Option renaming none->U,some->M
open Go renaming World->X
set_option maxHeartbeats 12800000
set_option maxRecDepth 100000
open Go.Proofs.Tryz
namespace Go.Proofs.YthhklgjjnaeaoaaGreatDoor
open Go.RowKit
section
end
/-! ### plain: pieces, one behind the other -/
theorem gN.older {w:X}{bo:ak}{cap:Nat}{l:av}(h:gN w bo cap l)(b:l≠[])(a:Addr)(e:bo=M a):a.block<w.heap.size:=by
 have c:0<l.length:=eu.2 b;rw[e] at h;have:=fH w _ (h.cell 0 c);rwa[add_block] at this
theorem Yc.stay {w w':X}{b o:Nat}{x:Pt.aan}{s:UO}(h:Yc w b o x s){B:Nat}(a:Below B w w')(c:w.heap.size<=B):Yc w' b o x s:=by
 have a:=a.mono c;exact⟨(a.cell (fH w _ h.c0)).trans h.c0,(a.cell (fH w _ h.c1)).trans h.c1,(a.cell (fH w _ h.c2)).trans h.c2,(a.cell (fH w _ h.c3)).trans h.c3,h.by_.stay a⟩
theorem Pt.Py {P:Pt.P}{n:Nat}(ok:Pt.Ok P n)(c k:Int)(b:av):Pt.step P ⟨5,c,k,b⟩=(⟨P.s,fun _=>Gt.yR,P.tr⟩,⟨0,[],[]⟩):=by
 show Pt.Qc P k=_;unfold Pt.Qc;rw[Pt.Du ok.sure]
structure pJ (w:X)(aai:Nat->Prop)(p g gs:Nat)(P:Pt.P)(wr:X):Prop where
 at_:∃Pd,gI wr Pd p g gs P∧∀k,Pd k->w.heap.size<=k∧¬aai k
 qy:Below w.heap.size w wr
 qlt:∀k,aai k->w.heap.size<=k∧k<wr.heap.size
section
variable {w wr W w':X} {aai:Nat->Prop} {p g gs:Nat} {P:Pt.P}
theorem pJ.stay (h:pJ w aai p g gs P wr)(a:Below wr.heap.size wr w'):pJ w aai p g gs P w':=by
 obtain⟨⟨c,d,f⟩,i,b⟩:=h;exact⟨⟨c,d.stay a,f⟩,then_ i a,fun k e=>⟨(b k e).1,bZ (b k e).2 a.size⟩⟩
theorem pJ.own (h:pJ w aai p g gs P wr)(a:Turns aai wr w'):pJ w (fun k=>(aai k∨wr.heap.size<=k)∧k<w'.heap.size) p g gs P w':=by
 obtain⟨⟨f,i,b⟩,c,d⟩:=h;have n:=a.size;have j:=c.size;refine⟨⟨fun k=>f k∧k<wr.heap.size,(i.mono (fun k l e=>⟨e,l⟩)).turns a (fun k e m=>(b k e.1).2 m),fun k e=>⟨(b k e.1).1,fun q=>?_⟩⟩,c.trans (a.below (fun k e=>(d k e).1) c.size),fun k e=>⟨?_,e.2⟩⟩
 . rcases q.1 with q | q
   . exact(b k e.1).2 q
   . have:=e.2;omega
 . rcases e.1 with q | q
   . exact(d k q).1
   . omega
structure aaZ (w:X)(aai:Nat->Prop)(p g gs:Nat)(W:X)(r:Pt.P×Pt.O)(e:Ending)(w':X):Prop where
 ret:∃(ao uo:ak) (jS an gQ un:Nat),e=Y (.agg #[I J (r.2.code:Int),Z ao an jS,Z uo un gQ])∧an=r.2.out.length∧un=r.2.up.length∧gN w' ao jS r.2.out∧gN w' uo gQ r.2.up∧pJ w (fun k=>aai k∨(r.2.up≠[]∧fV uo=M k)) p g gs r.1 w'
 at_:pJ w aai p g gs r.1 w'
 turns:Turns (fun k=>w.heap.size<=k∧¬aai k) W w'
theorem pJ.do_ (h:pJ w aai p g gs P wr)(j:Below wr.heap.size wr W)(hP:kD w){N:Nat}(ok:Pt.Ok P N)(v:P.tr.length<=1000000)(x:Pt.aan){bo:ak}{fU nb:Nat}(hB:gN W bo fU x.b)(sK:x.b≠[]->∀a,bo=M a->a.block<w.heap.size∨wr.heap.size<=a.block)(hn:x.b.length=nb)(hl:N+nb<=20000):
 Calls prog 27 #[Q (M ⟨p,0,U⟩),.agg #[I J x.kind,I J x.conn,I J x.n,Z bo nb fU]] W fun e w'=>aaZ w aai p g gs W (Pt.step P x) e w':=by
 obtain⟨⟨T,h1,l⟩,m,y⟩:=h;have hz:=j.size;have h5:gI W (fun k=>T k∧k<wr.heap.size) p g gs P:=(h1.mono (fun _ hk e=>⟨e,hk⟩)).stay j;refine(Ya hP (then_ m j) (fun i e=>(l i e.1).1) h5 ok v x hB (fun z a e q=>?_) hn hl).mono fun e w' d=>?_
 . rcases sK z a e with c | c
   . have:=(l _ q.1).1;omega
   . have:=q.2;omega
 . have B:=d.turns.size;have o:=(then_ m j).trans (d.turns.below (fun i e=>(l i e.1).1) (then_ m j).size);have C:∀k,gB (fun k=>T k∧k<wr.heap.size) W k->w.heap.size<=k∧¬aai k:=fun k q=>by
    rcases q with q | q
    . exact l k q.1
    . exact⟨dB (then_ m j).size q,fun c=>by have:=(y k c).2;omega⟩
   have r:∀k,aai k->w.heap.size<=k∧k<w'.heap.size:=fun k q=>⟨(y k q).1,bZ (y k q).2 (dB hz B)⟩;obtain⟨ao,D,jS,an,gQ,un,he,G,H,L,s,A2,S,t,u⟩:=d.ret;refine⟨⟨ao,D,jS,an,gQ,un,he,G,H,L,s,⟨A2,S,fun k q=>⟨(C k (t k q)).1,fun c=>?_⟩⟩,o,fun k q=>?_⟩,⟨⟨_,d.at_,C⟩,o,r⟩,d.turns.mono fun k q=>l k q.1⟩
   . rcases c with c | ⟨c,f⟩
     . exact(C k (t k q)).2 c
     . cases D with
       | none=>cases f
       | some a=>injection f with f;exact(u c a rfl).2 (by rw[f];exact q)
   . rcases q with q | ⟨c,f⟩
     . exact r k q
     . cases D with
       | none=>cases f
       | some a =>
         injection f with f;have h8:=(u c a rfl).1;have h9:=s.older c a rfl;have h10:a.block=k:=f;have:=(then_ m j).size;exact⟨by omega,by omega⟩
theorem pJ.iX (h:pJ w aai p g gs P wr):∃B,gX wr B gs P.s:=by
 obtain⟨⟨c,a,d⟩,_,_⟩:=h;obtain⟨B,b,_⟩:=a.iX;exact⟨B,b⟩
theorem pJ.cells (h:pJ w aai p g gs P wr):wr.cell? ⟨p,0,U⟩=M (Q (M ⟨g,0,U⟩))∧wr.cell? ⟨g,0,U⟩=M (Q (M ⟨gs,0,U⟩)):=by
 obtain⟨⟨b,a,c⟩,_,_⟩:=h;exact a.cells
theorem pJ.start {a:X}(c:Below w.heap.size w a)(h:gI wr (fun k=>a.heap.size<=k∧k<wr.heap.size) p g gs P)(b:Below a.heap.size a wr):pJ w (fun _=>False) p g gs P wr :=
 ⟨⟨_,h,fun _ e=>⟨dB c.size e.1,fun q=>q⟩⟩,then_ c b,fun _ e=>e.elim⟩
theorem pJ.list (h:pJ w aai p g gs P wr)(ok:Sr.Ok P.s):∃b,wr.cell? ⟨gs,0,U⟩=M (Q (M ⟨b,0,U⟩))∧gs<wr.heap.size∧∀W,Below wr.heap.size wr W->Calls prog 20 #[Q (M ⟨b,0,U⟩)] W fun e w'=>∃c,e=Y (Z c P.s.h.l.length P.s.h.l.length)∧pK w' (fun k=>W.heap.size<=k) 92 5 c P.s.h.l.length P.s.h.l∧Below W.heap.size W w':=by
 obtain⟨B,d⟩:=h.iX;obtain⟨b,o,f,i,j,a⟩:=d;obtain⟨⟨m,_⟩,_⟩:=kG a.row;exact⟨b,m,a.lt,fun W n=>Tf _ j _ W (a.sQ.stay n) ok.h.small⟩
end
section
variable {w wr W w':X} {aai:Nat->Prop} {p g gs:Nat} {P:Pt.P}
theorem pJ.trail (h:pJ w aai p g gs P wr)(a:P.tr.length<=1000000):
 Calls prog 30 #[Q (M ⟨p,0,U⟩)] wr fun e w'=>∃ao cap,e=Y (Z ao P.tr.length cap)∧Below wr.heap.size wr w':=by
 obtain⟨⟨q,c,r⟩,s,t⟩:=h;obtain⟨d,f,b,i,j,_,_,_⟩:=c.trail;have k:=FH P.tr d f P.tr.length wr b.qE rfl a;generalize P.tr.length=n at *;clear b;go_enter func30,ntmps30;go_wp2_with fail
 refine k.mono ?_;rintro e u ⟨ao,cap,rfl,_,l⟩;have m:=H9 l;go_wp2;go_ret;exact⟨ao,cap,rfl,m.o⟩
end
theorem Yg {P:Program}{f:FuncId}{a:Array Value}{W W':X}{aai:Ending->X->Prop}(e:W=W')(h:Calls P f a W' aai):Calls P f a W aai:=e▸h
theorem acB (W:X):gN (W.alloc (K (ig Pt.pbB).toArray 5 (73,74))) (M ⟨W.heap.size,0,U⟩) 73 Pt.pbB:=by
 refine⟨aM _,(fun e=>by cases e),fun j a=>⟨_,rfl,?_⟩⟩;refine(ji.made W (ig Pt.pbB).toArray 73 5 (73,74)).cell ?_;exact kF Pt.pbB j a
theorem Uq {W:X}{ao:ak}{cap n:Nat}{l:av}(h:gN W ao cap l)(a:n=l.length):(convert 31 9 (Z ao n cap)).run prog W=.ok (.string ⟨l.toArray⟩) W:=by
 subst a;exact h.str (P:=prog) 31 9 5 underlying31 underlying5 underlying9
theorem Turns.EO {S:Nat->Prop}{W W':X}{b:Nat}{a x1 x2:Value}(h:Turns S W W')(c:W.heap[b]? = M (FC a x1 x2))(d:¬S b):W'.heap[b]? = M (FC a x1 x2):=h.row c d
theorem zO {W:X}{b:Nat}{c x1 x2:Value}(a:W.heap[b]? = M (FC c x1 x2)):W.cell? ⟨b,0,U⟩=M c∧W.cell? ⟨b,1,U⟩=M x1∧W.cell? ⟨b,2,U⟩=M x2:=⟨eZ W b 0 _ _ _ a,eZ W b 1 _ _ _ a,eZ W b 2 _ _ _ a⟩
theorem FI (w:X)(hP:kD w):
 Calls prog 23 #[] w fun e w'=>e=Y (.bool true)∧Below w.heap.size w w':=by
 have kc:=fun(w:X) (C:Array Value) (n c:Nat)=>Lib.run_convert_bytes_const (P:=prog) w 31 5 C n c underlying31 underlying5;go_enter func23,ntmps23;go_wp2_with fail
 refine(Hg w).mono ?_;rintro e w1 ⟨p,g,gs,rfl,hP1,hb1⟩;have HL:=H9 (pJ.start (eY _ w) hP1 hb1);have y:=Pt.Ok.new;have z:=y.step Pt.x1;have ok2:=z.step Pt.x2;have tr1:=Pt.Jv Pt.new Pt.x1;have tr2:=Pt.Jv (Pt.step Pt.new Pt.x1).1 Pt.x2;have tr0:Pt.new.tr.length=0:=rfl;have ZP:=HL.o.do_ ((eY _ w1).alloc (aM _) (K (ig Pt.pbB).toArray 5 (73,74))) hP y (by omega) Pt.x1 (acB w1) (fun _ a e=>by injection e with e;subst e;exact Or.inr (aM _)) (rfl:Pt.pbB.length=73) (by decide);obtain⟨a1,a2,a3⟩:=Pt.acz;obtain⟨b1,b2⟩:=Pt.acA;obtain⟨d1,d2⟩:=Pt.Ye;have ae6:=H9 tr1;have ahH:=H9 tr2;have ahI:=H9 z;have I5:=H9 ok2
 have HA:=H9 (And.intro a1 (And.intro a2 a3));have HBB:=H9 (And.intro b1 b2);have B:=H9 (And.intro d1 d2)
 have hx1:Pt.x1.kind=1∧Pt.x1.conn=0∧Pt.x1.n=0:=⟨rfl,rfl,rfl⟩;clear tr1 tr2 tr0 y z ok2 a1 a2 a3 b1 b2 d1 d2 hP1 hb1;generalize Pt.step Pt.new Pt.x1=R1 at *;go_wp2_with fail
 refine Yg (W':=w1.alloc (K (ig Pt.pbB).toArray 5 (73,74))) (bC w1.alloc (by rfl)) ?_;refine ZP.mono ?_;rintro e D ⟨⟨ao,uo,jS,u,gQ,un,rfl,han,hun,hI1,hI2,Qk⟩,G,jN⟩;clear Qk;rw[HA.o.1];have alu:0<u:=by rw[han];exact HA.o.2.1
 have ta:decide ((u:Int) > 0)=true:=aI (by omega);have hb2:=(eY _ D).alloc (aM _) (K #[I J 0,Z ao u jS,Z uo un gQ] 70);have v:=G.own (Turns.of_below (S:=fun _=>False) hb2);have b:(D.alloc (K #[I J 0,Z ao u jS,Z uo un gQ] 70)).heap[D.heap.size]? = M (FC (I J 0) (Z ao u jS) (Z uo un gQ)):=eX D (K #[I J 0,Z ao u jS,Z uo un gQ] 70);have hs2:(D.alloc (K #[I J 0,Z ao u jS,Z uo un gQ] 70)).heap.size=D.heap.size+1:=fG ..;have HD2:=v.do_ (eY _ _) hP ahI.o (by have:=ae6.o;have:Pt.new.tr.length=0:=rfl;omega) Pt.x2 (bo:=U) (fU:=0) (nb:=0) (gN.nil _) (fun q=>absurd rfl q) rfl (by decide);have s:=H9 HBB.o;have HR1:=H9 b;have HS2:=H9 hs2
 have hl0:=HL.o.qy.size;have hl2:=G.qy.size;clear G v jN hI1 hI2 han hun b hs2 ZP HA HBB;generalize Pt.step R1.1 Pt.x2=R2 at *;go_wp2_with fail
 generalize (D.alloc (K #[I J 0,Z ao u jS,Z uo un gQ] 70))=W2 at *;refine HD2.mono ?_;rintro e H ⟨⟨jZ,d,Hl,f,L,un2,rfl,ahK,ae7,hJ1,N,hL3⟩,ahL,nL⟩;clear ahL;rw[s.o.1];have hne:R2.2.up≠[]:=by rw[s.o.2];decide
 rw[s.o.2] at ae7 N;obtain rfl:un2=58:=ae7;have t:=(eY _ H).alloc (aM _) (K #[I J 0,Z jZ f Hl,Z d 58 L] 70);have x:=hL3.own (Turns.of_below (S:=fun k=>(_:Prop)) t);have b:=nL.EO HR1.o (fun e=>e.2 ⟨Or.inr (aM _),by have:=HS2.o;omega⟩);have i:(H.alloc (K #[I J 0,Z jZ f Hl,Z d 58 L] 70)).heap[H.heap.size]? = M (FC (I J 0) (Z jZ f Hl) (Z d 58 L)):=eX H (K #[I J 0,Z jZ f Hl,Z d 58 L] 70);have hz3:=nL.size;have hs3:(H.alloc (K #[I J 0,Z jZ f Hl,Z d 58 L] 70)).heap.size=H.heap.size+1:=fG ..;have hlt1:=(aL.1 b).1;have ahM:=H9 ((t.block _ hlt1).trans b);have HJ2:=H9 (N.stay t);have HD3:=x.do_ (eY _ _) hP I5.o (by have:=ae6.o;have:=ahH.o;have:Pt.new.tr.length=0:=rfl;omega) Pt.x2 (bo:=U) (fU:=0) (nb:=0) (gN.nil _) (fun q=>absurd rfl q) rfl (by decide);have HR2:=H9 i;have yX:=H9 hs3;have E9:=H9 hne
 clear hne hL3 x nL hJ1 N ahK b i hs3 HD2 s t HR1;generalize Pt.step R2.1 Pt.x2=R3 at *;go_wp2_with fail
 generalize (H.alloc (K #[I J 0,Z jZ f Hl,Z d 58 L] 70))=W3 at *;refine HD3.mono ?_;rintro e w4 ⟨⟨kI,Ur,Ho,j,Hq,m,rfl,ahN,ahO,hK1,hK2,hK3⟩,T,vQ⟩;clear ahN ahO hK1 hK2 hK3;rw[B.o.1];have r:=(eY _ w4).alloc (aM _) (K #[I J 19,Z kI j Ho,Z Ur m Hq] 70);have b:=vQ.EO ahM.o (fun e=>e.2 ⟨Or.inl (Or.inl ⟨Or.inr (aM _),by have:=HS2.o;omega⟩),by have:=yX.o;omega⟩);have i:=vQ.EO HR2.o (fun e=>e.2 ⟨Or.inr (aM _),by have:=yX.o;omega⟩);have hr3:(w4.alloc (K #[I J 19,Z kI j Ho,Z Ur m Hq] 70)).heap[w4.heap.size]? = M (FC (I J 19) (Z kI j Ho) (Z Ur m Hq)):=eX w4 (K #[I J 19,Z kI j Ho,Z Ur m Hq] 70);obtain⟨c10,c11,c12⟩:=zO ((r.block _ (aL.1 b).1).trans b);obtain⟨c20,c21,c22⟩:=zO ((r.block _ (aL.1 i).1).trans i);obtain⟨c30,c31,c32⟩:=zO hr3;have HJ4:=Uq (W:=w4.alloc (K #[I J 19,Z kI j Ho,Z Ur m Hq] 70)) (ao:=d) (cap:=L) (l:=Pt.pbU) (n:=58) ((HJ2.o.turns vQ (fun a e e2=>e2.2 ⟨Or.inl (Or.inr ⟨E9.o,by rw[e];rfl⟩),HJ2.o.older (by decide) a e⟩)).stay r) rfl;have Ct:=(T.stay r).trail (by rw[B.o.2];decide);rw[B.o.2] at Ct;have kr:=H9 (then_ T.qy r);clear b i hr3 T vQ r HD3;go_upto_region 5 with fail
 generalize (w4.alloc (K #[I J 19,Z kI j Ho,Z Ur m Hq] 70))=W4 at *;go_wp2_with fail
 refine Ct.mono ?_;rintro e w5 ⟨ta,tc,rfl,hb5⟩;have nX:=H9 (then_ kr.o hb5);go_wp2;go_ret;exact⟨rfl,nX.o⟩
structure ae8 (w:X)(l:List Pt.aan)(ao:ak)(cap:Nat):Prop where
 is:rR w ao cap l
 pow:kD w
theorem pJ.does {w wr:X}{aai:Nat->Prop}{p g gs:Nat}{l:List Pt.aan}{ao:ak}{cap:Nat}(k:ae8 w l ao cap)(m:Yd l)(i:Nat)(c:i<l.length)(h:pJ w aai p g gs (Pt.run Pt.new (l.take i)) wr):
 ∃(b o:Nat) (st:UO),ao=M ⟨b,o,U⟩∧Yc w b (o+i*4) l[i] st∧∀W,Below wr.heap.size wr W->Calls prog 27 #[Q (M ⟨p,0,U⟩),.agg #[I J l[i].kind,I J l[i].conn,I J l[i].n,Z st.bo l[i].b.length st.fU]] W fun e w'=>aaZ w aai p g gs W (Pt.run Pt.new (l.take (i+1)),(Pt.step (Pt.run Pt.new (l.take i)) l[i]).2) e w':=by
 obtain⟨b,o,st,rfl,d⟩:=k.is.at_ i c;refine⟨b,o,st,rfl,d,fun W q=>?_⟩;have f:=Pt.Ok.run l i (by omega);have s:=Pt.Pz l i (by omega);have r:=Pt.Im l i c;have t:=Pt.Y8 l (i+1);have u:=m.few;have v:=m.sum
 have:=h.do_ q k.pow f (by omega) l[i] (d.by_.stay (then_ h.qy q)) (fun j a e=>Or.inl (d.by_.older j a e)) rfl (by omega);rw[Pt.Dt Pt.new l i c];exact this
theorem Z9:(prog.info? 40).map (fun i=>(i.zero,i.size,i.bytes))=M (M (Z U 0 0),1,24):=by kernel_rfl
structure Yi (w:X)(p g gs:Nat)(P:Pt.P)(ao:ak)(cap m k:Nat)(wr:X):Prop where
 at_:∃aai T,pJ w aai p g gs P wr∧qR wr aai 40 92 ao cap T∧T.length=m∧(∀x∈T,x.length<=1000000)∧∃T0,T=T0++[P.s.h.l]
 few:m<=k+1
theorem Yi.push {w c d:X}{aai:Nat->Prop}{p g gs:Nat}{P:Pt.P}{ao:ak}{cap m k:Nat}{T:List (List Sp.Up)}(ok:Sr.Ok P.s)(j:pJ w aai p g gs P c)(q:qR c aai 40 92 ao cap T)(r:T.length=m)(o:m<=k)(t:∀x∈T,x.length<=1000000){b:ak}{n:Nat}(u:P.s.h.l.length=n)(v:pK d (fun k=>c.heap.size<=k) 92 5 b n P.s.h.l)(f:Below c.heap.size c d):
 ∃xs,gH (d.alloc (K #[Z b n n] 40)) 0 40 1 ao cap m xs∧∀gJ a w',gH w' 0 40 1 gJ a (m+1) (xs++[Z b n n])->(d.alloc (K #[Z b n n] 40)).grownBy w' (fV ao)->(fV gJ=fV ao∨fV gJ=M (d.alloc (K #[Z b n n] 40)).heap.size)->Yi w p g gs P gJ a (m+1) k w':=by
 subst r;obtain⟨xs,y,z⟩:=(q.stay f).push (K #[Z b n n] 40);refine⟨xs,y,fun gJ a w' B C D=>?_⟩;obtain⟨G,H⟩:=z gJ a w' P.s.h.l ⟨b,n⟩ n (fun k=>c.heap.size<=k) u v.at_ (fun k e N=>by have:=(j.qlt k e).2;omega) B C D;have W:=f.size;have L:=j.own ((Turns.of_below (S:=aai) f).trans H (fun _ e _=>e));refine⟨⟨_,T++[P.s.h.l],L,G.mono (fun k o e=>⟨?_,o⟩),by simp,fun x i=>?_,T,rfl⟩,by omega⟩
 . rcases e with e | e | e
   . exact Or.inl e
   . exact Or.inr e
   . exact Or.inr (by omega)
 . rcases bq.1 i with e | e
   . exact t x e
   . rw[bA.1 e];have:=ok.h.few;omega
theorem FJ (w:X)(hP:kD w)(l:List Pt.aan)(ao:ak)(cap n:Nat)(G:Int)(hl:rR w ao cap l)(hn:l.length=n)(hz:∀q∈l,q.b.length<=140737488355328)(hN:n<=140737488355328):
 Calls prog 6 #[Z ao n cap,I J G] w fun e w'=>e=Y (.bool true)∧Below w.heap.size w w':=by
 subst hn;have hcap:=hl.cap_;have HX:ae8 w l ao cap:=⟨hl,hP⟩;have HBg:=FI w hP;have HG:Hid (∀W,Below w.heap.size w W->Calls prog 24 #[Z ao l.length cap] W fun e w'=>aaY W l e w'):=fun W d=>FD l ao cap l.length W (hl.stay d) rfl hz hN;obtain⟨i0,hi0,hz0,hz1,hz2⟩:=info_parts Z9;have Hi:=H9 hi0;have kY:=H9 hz0;have kT:=H9 hz1;have kZ:=H9 hz2
 clear hl hP hz hN hi0 hz0 hz1 hz2;go_enter func6,ntmps6;go_wp2_with fail
 refine HBg.mono ?_;rintro e w1 ⟨rfl,a⟩;have Zp:=HG.o w1 a;have HB1:=H9 a;clear HG a HBg;go_wp2_with fail
 refine Zp.mono ?_;rintro e w1' ⟨b,rfl,hsm,hw⟩;rw[hw];clear hw w1' Zp;cases b with
 | true =>
   go_wp2;go_ret;exact⟨rfl,HB1.o⟩
 | false =>
   have HS:=H9 (hsm rfl);clear hsm;go_wp2_with fail
   refine(Hg w1).mono ?_;rintro e w2 ⟨p,g,gs,rfl,hP2,hb2⟩;have hL2:=pJ.start HB1.o hP2 hb2;obtain⟨ks,y2,C,NT⟩:=hL2.list Sr.Ok.new;obtain⟨y0,y1⟩:=hL2.cells;have t:=NT w2 (eY _ _);have HL2:=H9 hL2;clear hP2 hb2 NT hL2;go_wp2_with fail
   refine t.mono ?_;rintro e w4 ⟨c,rfl,hU,hb4⟩;obtain⟨xs,hO4,hK4⟩:=Yi.push (k:=0) Sr.Ok.new HL2.o (qR.nil _ _ _ _) rfl (aM _) (fun x hx=>by cases hx) rfl hU hb4;have JA:=H9 hO4;have HK4:=H9 hK4
   clear hU hb4 hO4 hK4 t y0 y1 y2 C;go_wp2_with (at_builtin;refine gP rfl (.tmp 15) (.tmp 27) 100 rfl 0 40 i0 (Z U 0 0) 1 24 underlying100 Hi.o kY.o kT.o kZ.o rfl (by decide) rfl JA.o rfl (ji.made _ _ 1 _ _) rfl (fun u hu=>by simp at hu;subst hu;rfl) (by simp) (by simp) (aA _) ?_;intro xY cap5 w5 vX IL qg;have hD5:=HK4.o _ _ _ vX IL qg;have HD5:=H9 hD5;clear vX IL qg hD5)
   clear JA HK4 HL2;go_loopw [6,7] (fun vt vi wr=>∃(i:Nat) (a9:ak) (c9 m:Nat),i<=l.length∧vi=I J i∧vt=Z a9 m c9∧Yi w p g gs (Pt.run Pt.new (l.take i)) a9 c9 m i wr) (fun _ vi _=>l.length-(intOf vi).toNat)
   case atStart=>exact⟨0,xY,cap5,1,aA _,rfl,rfl,by rw[List.take_zero];exact HD5.o⟩
   case round =>
    clear HD5;obtain⟨i,a9,c9,m,hi,rfl,rfl,hK⟩:=hrel;have acE:=HS.o.few;by_cases hlt:i<l.length
    . have hlt':(i:Int)<l.length:=by omega
      obtain⟨⟨aai,T,hL,hT,H,L,_⟩,hmk⟩:=hK;obtain⟨bb,oo,st,rfl,hA,ZP⟩:=hL.does HX HS.o i hlt;have HPx:Hid (∀W,Below w.heap.size w W->W.cell? ⟨bb,oo+i*4,U⟩=M (I J l[i].kind)):=fun W d=>(hA.stay d (aM _)).c0;have N:=hA.stay hL.qy (aM _);have c0:=N.c0;have c1:=N.c1;have c2:=N.c2;have c3:=N.c3
      have y:=ZP wr (eY _ _);have HTs:=H9 hT;have f:=H9 H;have wV:=H9 L
      have rJ:=H9 (Pt.Ok.run l (i+1) (by omega)).s;clear hA N ZP hL hT H L;generalize (Pt.step (Pt.run Pt.new (l.take i)) l[i]).2=o at *;obtain⟨P2,hPe⟩:∃P2,Pt.run Pt.new (l.take (i+1))=P2:=⟨_,rfl⟩;rw[hPe] at y rJ;have HPe:=H9 hPe;clear hPe;generalize l[i]=x at *;generalize x.b.length=nb at *;go_wp2_with fail
      refine y.mono ?_;intro e r hd;obtain⟨⟨kI,Ur,a3,n3,u3,m3,rfl,hx1,hx2,hx3,hx4,hx5⟩,z,nL⟩:=hd;clear hx1 hx2 hx3 hx4 hx5 y c1 c2 c3;generalize o.code=cd at *;have ZN:=(eY _ r).alloc (aM _) (K #[I J (cd:Int),Z kI n3 a3,Z Ur m3 u3] 70);have hr7:(r.alloc (K #[I J (cd:Int),Z kI n3 a3,Z Ur m3 u3] 70)).heap[r.heap.size]? = M (FC (I J (cd:Int)) (Z kI n3 a3) (Z Ur m3 u3)):=eX r (K #[I J (cd:Int),Z kI n3 a3,Z Ur m3 u3] 70);have hL7:=z.stay ZN;have OE:=H9 ((HTs.o.turns nL (fun k q e=>e.2 q)).stay ZN);clear c0;have c0:=HPx.o _ hL7.qy;obtain⟨d0,d1,d2⟩:=zO hr7;have HL7:=H9 hL7;clear hL7 z nL ZN hr7 HTs HPx;go_upto_region 12 with fail
      generalize (r.alloc (K #[I J (cd:Int),Z kI n3 a3,Z Ur m3 u3] 70))=W7 at *;go_cut [71] (fun v wd=>(∃b:Bool,v=.bool b)∧wd=W7)
      case first =>
       by_cases h1:0<n3
       . have t1:decide ((n3:Int) > 0)=true:=aI (by omega);go_wp2;go_meet;exact⟨⟨_,rfl⟩,rfl⟩
       . have t1:decide ((n3:Int) > 0)=false:=aJ (by omega);by_cases S:0<m3
         . have t2:decide ((m3:Int) > 0)=true:=aI (by omega);go_wp2;go_meet;exact⟨⟨_,rfl⟩,rfl⟩
         . have t2:decide ((m3:Int) > 0)=false:=aJ (by omega);cases h3:(x.kind==5)
           . cases h4:(x.kind==4)
             . go_wp2;go_meet;exact⟨⟨_,rfl⟩,rfl⟩
             . go_wp2;go_meet;exact⟨⟨_,rfl⟩,rfl⟩
           . go_wp2;go_meet;exact⟨⟨_,rfl⟩,rfl⟩
      case rest =>
       obtain⟨⟨b,rfl⟩,hw⟩:=hcut;subst hw;obtain⟨ks,y2,C,NT⟩:=HL7.o.list rJ.o;obtain⟨y0,y1⟩:=HL7.o.cells;have t:=NT wc (eY _ _);have HPu:Hid (∀T' a' c' m',qR wc aai 40 92 a' c' T'->T'.length=m'->m'<=i+1->(∀x∈T',x.length<=1000000)->∀w8 c,pK w8 (fun k=>wc.heap.size<=k) 92 5 c P2.s.h.l.length P2.s.h.l->Below wc.heap.size wc w8->_):=fun T' a' c' m' h1 S h3 h4 w8 c h5 h6=>Yi.push (k:=i+1) rJ.o HL7.o h1 S h3 h4 rfl h5 h6;have hmm:m<=101:=by omega
       clear NT d0 d1 d2 c0 rJ HL7;generalize P2.s.h.l.length=un at *;cases b with
       | true =>
         have HQ:=H9 (HPu.o [] U 0 0 (qR.nil _ _ _ _) rfl (aA _) (fun x hx=>by cases hx));clear HPu f wV OE;go_wp2_with fail
         refine t.mono ?_;rintro e w8 ⟨c,rfl,hU8,YA⟩;obtain⟨xs,hO8,hK8⟩:=HQ.o w8 c hU8 YA;have HO8:=H9 hO8;have HK8:=H9 hK8
         clear hU8 YA hO8 hK8 t y0 y1 y2 C HQ;go_wp2_with (at_builtin;refine gP rfl (.tmp 72) (.tmp 84) 100 rfl 0 40 i0 (Z U 0 0) 1 24 underlying100 Hi.o kY.o kT.o kZ.o rfl (by decide) rfl HO8.o rfl (ji.made _ _ 1 _ _) rfl (fun u hu=>by simp at hu;subst hu;rfl) (by simp) (by simp) (aA _) ?_;intro jv gU w9 jX hG9 jA;have hD9:=HK8.o _ _ _ jX hG9 jA;have HD9:=H9 hD9;clear jX hG9 jA hD9)
         clear HO8 HK8;go_roundw
         case rel=>exact⟨i+1,jv,gU,1,by omega,by go_num,by go_num,by rw[HPe.o];exact HD9.o⟩
         case measure=>simp[intOf];omega
       | false =>
         have HQ:=H9 (HPu.o T a9 c9 m OE.o f.o hmk wV.o);clear HPu f wV OE;go_wp2_with fail
         refine t.mono ?_;rintro e w8 ⟨c,rfl,hU8,YA⟩;obtain⟨xs,hO8,hK8⟩:=HQ.o w8 c hU8 YA;have HO8:=H9 hO8;have HK8:=H9 hK8
         clear hU8 YA hO8 hK8 t y0 y1 y2 C HQ;go_wp2_with (at_builtin;refine gP rfl (.tmp 72) (.tmp 84) 100 rfl 0 40 i0 (Z U 0 0) 1 24 underlying100 Hi.o kY.o kT.o kZ.o rfl (by decide) rfl HO8.o rfl (ji.made _ _ 1 _ _) rfl (fun u hu=>by simp at hu;subst hu;rfl) (by omega) (by omega) (aA _) ?_;intro jv gU w9 jX hG9 jA;have hD9:=HK8.o _ _ _ jX hG9 jA;have HD9:=H9 hD9;clear jX hG9 jA hD9)
         clear HO8 HK8;go_roundw
         case rel=>exact⟨i+1,jv,gU,m+1,by omega,by go_num,by go_num,by rw[HPe.o];exact HD9.o⟩
         case measure=>simp[intOf];omega
    . obtain rfl:i=l.length:=by omega
      obtain⟨⟨aai,T,hL,hT,H,L,T0,hT0⟩,hmk⟩:=hK;have hok:=Pt.Ok.run l l.length (aM _);have htr:=Pt.Pz l l.length (aM _);have hsum:=HS.o.sum;rw[bN] at hL hok htr hT0;generalize Pt.run Pt.new l=P at *;have hcs:=Pt.Py hok 0 G [];have y:=hL.do_ (eY _ _) HX.pow hok (by omega) ⟨5,0,G,[]⟩ (bo:=U) (fU:=0) (nb:=0) (gN.nil _) (fun q=>absurd rfl q) rfl (by omega);rw[hcs] at y;have rJ:=H9 hok.s;have wV:=H9 L;have HTe:=H9 hT0;have HT:=H9 hT;have f:=H9 H
      have hm:m<=101:=by omega
      clear hL hT L hT0 hcs hok htr hsum acE H;go_wp2_with fail
      refine y.mono ?_;intro e r hd;obtain⟨⟨kI,Ur,a3,n3,u3,m3,rfl,hx1,hx2,hx3,hx4,hx5⟩,z,nL⟩:=hd;have HT3:=H9 (HT.o.turns nL (fun k q e=>e.2 q));obtain⟨ks,y2,C,NT⟩:=z.list rJ.o;obtain⟨y0,y1⟩:=z.cells;have NT:=H9 NT;have Zi:=H9 z
      have HCc:Hid (∀W,Below r.heap.size r W->W.cell? ⟨p,0,U⟩=M (Q (M ⟨g,0,U⟩))∧W.cell? ⟨g,0,U⟩=M (Q (M ⟨gs,0,U⟩))∧W.cell? ⟨gs,0,U⟩=M (Q (M ⟨ks,0,U⟩))):=fun W d=>⟨(d.cell (fH r _ y0)).trans y0,(d.cell (fH r _ y1)).trans y1,(d.cell (fH r _ y2)).trans y2⟩;clear hx1 hx2 hx3 hx4 hx5 y z nL HT y0 y1 y2 C;go_wp2;go_loopw [9] (fun vi wq=>∃k:Nat,k<=m∧vi=I J k∧Below r.heap.size r wq∧∀j,j<k->T[j]?≠M P.s.h.l) (fun vi _=>m-(intOf vi).toNat)
      case atStart=>exact⟨0,aA _,rfl,eY _ _,fun j hj=>absurd hj (bX j)⟩
      case round =>
       obtain⟨k,hk,rfl,hB,hNo⟩:=hrel;have HB:=H9 hB;have vW:=H9 hNo
       clear hB hNo;by_cases hlt:k<m
       . have hlT:k<T.length:=by rw[f.o];exact hlt
         obtain⟨bt,ot,a0,c0,ha,B,hI0⟩:=(HT3.o.stay HB.o).at_ k hlT;subst ha;have htc:=HT3.o.cap_;rw[f.o] at htc;have hlt':(k:Int)<m:=by omega
         have qU:Hid (∀W,Below wr.heap.size wr W->W.cell? ⟨bt,ot+k,U⟩=M (Z a0 T[k].length c0)∧W.cell? ⟨p,0,U⟩=M (Q (M ⟨g,0,U⟩))∧W.cell? ⟨g,0,U⟩=M (Q (M ⟨gs,0,U⟩))∧W.cell? ⟨gs,0,U⟩=M (Q (M ⟨ks,0,U⟩))):=fun W d=>⟨(d.cell (p:=⟨bt,ot+k,U⟩) (fH wr _ B)).trans B,HCc.o W (then_ HB.o d)⟩;have hx:=wV.o _ (aC hlT);have hget:T[k]? = M T[k]:=dz hlT;have QA:Hid (∀b1:Bool,(T[k]=P.s.h.l->b1=true)->b1=false->∀j,j<k+1->T[j]?≠M P.s.h.l):=fun b1 h1 S j hj=>by
          by_cases hjk:j<k
          . exact vW.o j hjk
          . obtain rfl:j=k:=by omega
            rw[hget];intro e;injection e with e;have:=h1 e;rw[S] at this;cases this
         have HL1:Hid (∀W,Below wr.heap.size wr W->Calls prog 20 #[Q (M ⟨ks,0,U⟩)] W fun e w'=>∃c,e=Y (Z c P.s.h.l.length P.s.h.l.length)∧pU w' c P.s.h.l.length P.s.h.l∧Below wr.heap.size wr w'):=fun W d=>(NT.o W (then_ HB.o d)).mono fun e w' ⟨c,h1,S,h3⟩=>⟨c,h1,S.zf,then_ d h3⟩;have ahU:Hid (∀W c,Below wr.heap.size wr W->pU W c P.s.h.l.length P.s.h.l->Calls prog 19 #[Z a0 T[k].length c0,Z c P.s.h.l.length P.s.h.l.length] W fun e w'=>(∃b:Bool,e=Y (.bool b)∧(T[k]=P.s.h.l->b=true))∧Below wr.heap.size wr w'):=fun W c S h3=>(Ms T[k] P.s.h.l a0 c c0 _ _ _ W (hI0.stay S) h3 rfl rfl hx).mono fun e w' ho=>by
          obtain⟨b,q,he,hb,hw⟩:=ho;exact⟨⟨b,he,hb⟩,by rw[hw];exact then_ S (kX W q)⟩
         have HEn:Hid (∀W,Below wr.heap.size wr W->Below r.heap.size r W):=fun W d=>then_ HB.o d;have HEw:Hid (∀W,Below r.heap.size r W->Below w.heap.size w W):=fun W d=>then_ Zi.o.qy d;obtain⟨e0,e1,e2,e3⟩:=qU.o wr (eY _ _);clear hx hget hI0 wV HTe B;generalize T[k]=x at *;clear hlT;generalize x.length=xn at *;generalize P.s.h.l.length=un at *;go_upto_region 19 with fail
         have D:Hid (Below wr.heap.size wr wr.drew):=gy _ _;go_region_held3 (fun w'=>w'.cell? ⟨bt,ot+k,U⟩=M (Z a0 xn c0)∧w'.cell? ⟨p,0,U⟩=M (Q (M ⟨g,0,U⟩))∧w'.cell? ⟨g,0,U⟩=M (Q (M ⟨gs,0,U⟩))∧w'.cell? ⟨gs,0,U⟩=M (Q (M ⟨ks,0,U⟩))) (go_keep) (first
          | (go_at_call 20;refine(HL1.o _ D.o).mono ?_;rintro e u1 ⟨c,rfl,hu1,a⟩;have HUa:=H9 hu1;clear hu1;obtain⟨f0,f1,f2,f3⟩:=qU.o u1 a;have D:=H9 a;clear a)
          | (go_at_call 19;refine(ahU.o _ _ D.o HUa.o).mono ?_;rintro e u1 ⟨⟨b1,rfl,aff⟩,a⟩;have vP:=H9 aff;clear aff;obtain⟨f0,f1,f2,f3⟩:=qU.o u1 a;have D:=H9 a;clear a))
         cases b1 with
         | true =>
           go_wp2;go_ret;exact⟨rfl,HEw.o _ (HEn.o _ D.o)⟩
         | false =>
           go_wp2;go_roundw
           case rel=>exact⟨k+1,by omega,by go_num,HEn.o _ D.o,QA.o false vP.o rfl⟩
           case measure=>simp[intOf];omega
       . exfalso;obtain rfl:k=m:=by omega
         have h1:=vW.o (T.length-1);rw[f.o] at h1;have S:T.length=T0.length+1:=by rw[HTe.o];simp
         rw[f.o] at S;refine h1 (by omega) ?_;rw[HTe.o,bg (by omega),show k-1-T0.length=0 by omega];rfl
end Go.Proofs.YthhklgjjnaeaoaaGreatDoor