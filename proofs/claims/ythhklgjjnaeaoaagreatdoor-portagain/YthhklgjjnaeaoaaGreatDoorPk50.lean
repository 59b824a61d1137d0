/- Small texts, one behind the other: GaQ, GaR, GaT, PoG, PoH, PoLwA. -/
import Derived.Test.YthhklgjjnaeaoaaGreatDoorPk49
import Derived.Lib.SlBytesConst
import Derived.Test.YthhklgjjnaeaoaaGreatDoorRfReqs
open Go.Value renaming int->I,slice->Z,pointer->Q
open Go.IntKind renaming i64->J
open Go.Obj renaming cells->K
open Go.Ending renaming returned->Y
open Option renaming none->U,some->M
open Go renaming World->X
set_option maxHeartbeats 6400000
set_option maxRecDepth 100000
open Go.Proofs.Tryz
namespace Go.Proofs.YthhklgjjnaeaoaaGreatDoor
open Go.RowKit
theorem acw (W:X):gN (W.alloc (K #[I .u8 71,I .u8 69,I .u8 84,I .u8 32,I .u8 47,I .u8 32,I .u8 72,I .u8 84,I .u8 84,I .u8 80,I .u8 47,I .u8 49,I .u8 46,I .u8 49,I .u8 13,I .u8 10,I .u8 72,I .u8 111,I .u8 115,I .u8 116,I .u8 58,I .u8 32,I .u8 97,I .u8 13,I .u8 10,I .u8 13,I .u8 10] 5 (27,28))) (M ⟨W.heap.size,0,U⟩) 27 Mj:=by
 have h:=jl.made W #[I .u8 71,I .u8 69,I .u8 84,I .u8 32,I .u8 47,I .u8 32,I .u8 72,I .u8 84,I .u8 84,I .u8 80,I .u8 47,I .u8 49,I .u8 46,I .u8 49,I .u8 13,I .u8 10,I .u8 72,I .u8 111,I .u8 115,I .u8 116,I .u8 58,I .u8 32,I .u8 97,I .u8 13,I .u8 10,I .u8 13,I .u8 10] 27 5 (27,28);refine⟨aM _,(fun e=>by cases e),fun j a=>⟨_,rfl,?_⟩⟩;refine h.cell ?_;exact jS Mj j a
section
end
/-! ### plain: pieces, one behind the other -/
theorem gN.older {w:X}{bo:ak}{cap:Nat}{l:av}(h:gN w bo cap l)(b:l≠[])(a:Addr)(e:bo=M a):a.block<w.heap.size:=by
 have c:0<l.length:=eu.2 b;rw[e] at h;have:=fH w _ (h.cell 0 c);rwa[add_block] at this
theorem Yf.stay {w w':X}{b o:Nat}{x:Pt.aao}{s:UQ}(h:Yf w b o x s){B:Nat}(a:Below B w w')(c:w.heap.size<=B):Yf w' b o x s:=by
 have a:=a.mono c;exact⟨(a.cell (fH w _ h.c0)).trans h.c0,(a.cell (fH w _ h.c1)).trans h.c1,(a.cell (fH w _ h.c2)).trans h.c2,(a.cell (fH w _ h.c3)).trans h.c3,h.by_.stay a⟩
theorem Pt.EM {P:Pt.P}{n:Nat}(ok:Pt.Ok P n)(c k:Int)(b:av):Pt.step P ⟨5,c,k,b⟩=(⟨P.s,fun _=>Gt.wL,P.tr⟩,⟨0,[],[]⟩):=by
 show Pt.Qb P k=_;unfold Pt.Qb;rw[Pt.Dr ok.sure]
structure pJ (w:X)(aaj:Nat->Prop)(p g gs:Nat)(P:Pt.P)(wr:X):Prop where
 at_:∃Pd,gI wr Pd p g gs P∧∀k,Pd k->w.heap.size<=k∧¬aaj k
 qL:Below w.heap.size w wr
 qlt:∀k,aaj k->w.heap.size<=k∧k<wr.heap.size
section
variable {w wr W w':X} {aaj:Nat->Prop} {p g gs:Nat} {P:Pt.P}
theorem pJ.stay (h:pJ w aaj p g gs P wr)(a:Below wr.heap.size wr w'):pJ w aaj p g gs P w':=by
 obtain⟨⟨c,d,f⟩,i,b⟩:=h;exact⟨⟨c,d.stay a,f⟩,then_ i a,fun k e=>⟨(b k e).1,bZ (b k e).2 a.size⟩⟩
theorem pJ.own (h:pJ w aaj p g gs P wr)(a:Turns aaj wr w'):pJ w (fun k=>(aaj k∨wr.heap.size<=k)∧k<w'.heap.size) p g gs P w':=by
 obtain⟨⟨f,i,b⟩,c,d⟩:=h;have n:=a.size;have j:=c.size;refine⟨⟨fun k=>f k∧k<wr.heap.size,(i.mono (fun k l e=>⟨e,l⟩)).turns a (fun k e m=>(b k e.1).2 m),fun k e=>⟨(b k e.1).1,fun q=>?_⟩⟩,c.trans (a.below (fun k e=>(d k e).1) c.size),fun k e=>⟨?_,e.2⟩⟩
 . rcases q.1 with q | q
   . exact(b k e.1).2 q
   . have:=e.2;omega
 . rcases e.1 with q | q
   . exact(d k q).1
   . omega
structure Yh (w:X)(aaj:Nat->Prop)(p g gs:Nat)(W:X)(r:Pt.P×Pt.O)(e:Ending)(w':X):Prop where
 ret:∃(ao uo:ak) (jR an gP un:Nat),e=Y (.agg #[I J (r.2.code:Int),Z ao an jR,Z uo un gP])∧an=r.2.out.length∧un=r.2.up.length∧gN w' ao jR r.2.out∧gN w' uo gP r.2.up∧pJ w (fun k=>aaj k∨(r.2.up≠[]∧fZ uo=M k)) p g gs r.1 w'
 at_:pJ w aaj p g gs r.1 w'
 turns:Turns (fun k=>w.heap.size<=k∧¬aaj k) W w'
theorem pJ.do_ (h:pJ w aaj p g gs P wr)(j:Below wr.heap.size wr W)(hP:kC w){N:Nat}(ok:Pt.Ok P N)(v:P.tr.length<=1000000)(x:Pt.aao){bo:ak}{fU nb:Nat}(hB:gN W bo fU x.b)(sK:x.b≠[]->∀a,bo=M a->a.block<w.heap.size∨wr.heap.size<=a.block)(hn:x.b.length=nb)(hl:N+nb<=20000):
 Calls prog 27 #[Q (M ⟨p,0,U⟩),.agg #[I J x.kind,I J x.conn,I J x.n,Z bo nb fU]] W fun e w'=>Yh w aaj p g gs W (Pt.step P x) e w':=by
 obtain⟨⟨T,h1,l⟩,m,y⟩:=h;have hz:=j.size;have h5:gI W (fun k=>T k∧k<wr.heap.size) p g gs P:=(h1.mono (fun _ hk e=>⟨e,hk⟩)).stay j;refine(Yd hP (then_ m j) (fun i e=>(l i e.1).1) h5 ok v x hB (fun z a e q=>?_) hn hl).mono fun e w' d=>?_
 . rcases sK z a e with c | c
   . have:=(l _ q.1).1;omega
   . have:=q.2;omega
 . have B:=d.turns.size;have o:=(then_ m j).trans (d.turns.below (fun i e=>(l i e.1).1) (then_ m j).size);have C:∀k,gB (fun k=>T k∧k<wr.heap.size) W k->w.heap.size<=k∧¬aaj k:=fun k q=>by
    rcases q with q | q
    . exact l k q.1
    . exact⟨dB (then_ m j).size q,fun c=>by have:=(y k c).2;omega⟩
   have r:∀k,aaj k->w.heap.size<=k∧k<w'.heap.size:=fun k q=>⟨(y k q).1,bZ (y k q).2 (dB hz B)⟩;obtain⟨ao,D,jR,an,gP,un,he,G,H,L,s,A2,S,t,u⟩:=d.ret;refine⟨⟨ao,D,jR,an,gP,un,he,G,H,L,s,⟨A2,S,fun k q=>⟨(C k (t k q)).1,fun c=>?_⟩⟩,o,fun k q=>?_⟩,⟨⟨_,d.at_,C⟩,o,r⟩,d.turns.mono fun k q=>l k q.1⟩
   . rcases c with c | ⟨c,f⟩
     . exact(C k (t k q)).2 c
     . cases D with
       | none=>cases f
       | some a=>injection f with f;exact(u c a rfl).2 (by rw[f];exact q)
   . rcases q with q | ⟨c,f⟩
     . exact r k q
     . cases D with
       | none=>cases f
       | some a =>
         injection f with f;have h8:=(u c a rfl).1;have h9:=s.older c a rfl;have h10:a.block=k:=f;have:=(then_ m j).size;exact⟨by omega,by omega⟩
theorem pJ.iX (h:pJ w aaj p g gs P wr):∃B,gV wr B gs P.s:=by
 obtain⟨⟨c,a,d⟩,_,_⟩:=h;obtain⟨B,b,_⟩:=a.iX;exact⟨B,b⟩
theorem pJ.cells (h:pJ w aaj p g gs P wr):wr.cell? ⟨p,0,U⟩=M (Q (M ⟨g,0,U⟩))∧wr.cell? ⟨g,0,U⟩=M (Q (M ⟨gs,0,U⟩)):=by
 obtain⟨⟨b,a,c⟩,_,_⟩:=h;exact a.cells
theorem pJ.start {a:X}(c:Below w.heap.size w a)(h:gI wr (fun k=>a.heap.size<=k∧k<wr.heap.size) p g gs P)(b:Below a.heap.size a wr):pJ w (fun _=>False) p g gs P wr :=
 ⟨⟨_,h,fun _ e=>⟨dB c.size e.1,fun q=>q⟩⟩,then_ c b,fun _ e=>e.elim⟩
theorem pJ.list (h:pJ w aaj p g gs P wr)(ok:Sr.Ok P.s):∃b,wr.cell? ⟨gs,0,U⟩=M (Q (M ⟨b,0,U⟩))∧gs<wr.heap.size∧∀W,Below wr.heap.size wr W->Calls prog 20 #[Q (M ⟨b,0,U⟩)] W fun e w'=>∃c,e=Y (Z c P.s.h.l.length P.s.h.l.length)∧pU w' (fun k=>W.heap.size<=k) 92 5 c P.s.h.l.length P.s.h.l∧Below W.heap.size W w':=by
 obtain⟨B,d⟩:=h.iX;obtain⟨b,o,f,i,j,a⟩:=d;obtain⟨⟨m,_⟩,_⟩:=kF a.row;exact⟨b,m,a.lt,fun W n=>Te _ j _ W (a.sP.stay n) ok.h.small⟩
end
section
variable {w wr W w':X} {aaj:Nat->Prop} {p g gs:Nat} {P:Pt.P}
theorem pJ.trail (h:pJ w aaj p g gs P wr)(a:P.tr.length<=1000000):
 Calls prog 30 #[Q (M ⟨p,0,U⟩)] wr fun e w'=>∃ao cap,e=Y (Z ao P.tr.length cap)∧Below wr.heap.size wr w':=by
 obtain⟨⟨q,c,r⟩,s,t⟩:=h;obtain⟨d,f,b,i,j,_,_,_⟩:=c.trail;have k:=FI P.tr d f P.tr.length wr b.qP rfl a;generalize P.tr.length=n at *;clear b;go_enter func30,ntmps30;go_wp2_with fail
 refine k.mono ?_;rintro e u ⟨ao,cap,rfl,_,l⟩;have m:=H9 l;go_wp2;go_ret;exact⟨ao,cap,rfl,m.o⟩
end
theorem Yk {P:Program}{f:FuncId}{a:Array Value}{W W':X}{aaj:Ending->X->Prop}(e:W=W')(h:Calls P f a W' aaj):Calls P f a W aaj:=e▸h
theorem acA (W:X):gN (W.alloc (K (gZ Pt.pbB).toArray 5 (73,74))) (M ⟨W.heap.size,0,U⟩) 73 Pt.pbB:=by
 refine⟨aM _,(fun e=>by cases e),fun j a=>⟨_,rfl,?_⟩⟩;refine(jl.made W (gZ Pt.pbB).toArray 73 5 (73,74)).cell ?_;exact jS Pt.pbB j a
theorem Uo {W:X}{ao:ak}{cap n:Nat}{l:av}(h:gN W ao cap l)(a:n=l.length):(convert 31 9 (Z ao n cap)).run prog W=.ok (.string ⟨l.toArray⟩) W:=by
 subst a;exact h.str (P:=prog) 31 9 5 underlying31 underlying5 underlying9
theorem Turns.EN {S:Nat->Prop}{W W':X}{b:Nat}{a x1 x2:Value}(h:Turns S W W')(c:W.heap[b]? = M (FD a x1 x2))(d:¬S b):W'.heap[b]? = M (FD a x1 x2):=h.row c d
theorem zO {W:X}{b:Nat}{c x1 x2:Value}(a:W.heap[b]? = M (FD c x1 x2)):W.cell? ⟨b,0,U⟩=M c∧W.cell? ⟨b,1,U⟩=M x1∧W.cell? ⟨b,2,U⟩=M x2:=⟨eZ W b 0 _ _ _ a,eZ W b 1 _ _ _ a,eZ W b 2 _ _ _ a⟩
theorem FJ (w:X)(hP:kC w):
 Calls prog 23 #[] w fun e w'=>e=Y (.bool true)∧Below w.heap.size w w':=by
 have kc:=fun(w:X) (C:Array Value) (n c:Nat)=>Lib.run_convert_bytes_const (P:=prog) w 31 5 C n c underlying31 underlying5;go_enter func23,ntmps23;go_wp2_with fail
 refine(Hg w).mono ?_;rintro e w1 ⟨p,g,gs,rfl,hP1,hb1⟩;have HL:=H9 (pJ.start (eY _ w) hP1 hb1);have z:=Pt.Ok.new;have B:=z.step Pt.x1;have ok2:=B.step Pt.x2;have tr1:=Pt.Jt Pt.new Pt.x1;have tr2:=Pt.Jt (Pt.step Pt.new Pt.x1).1 Pt.x2;have tr0:Pt.new.tr.length=0:=rfl;have ZO:=HL.o.do_ ((eY _ w1).alloc (aM _) (K (gZ Pt.pbB).toArray 5 (73,74))) hP z (by omega) Pt.x1 (acA w1) (fun _ a e=>by injection e with e;subst e;exact Or.inr (aM _)) (rfl:Pt.pbB.length=73) (by decide);obtain⟨a1,a2,a3⟩:=Pt.acy;obtain⟨b1,b2⟩:=Pt.acz;obtain⟨d1,d2⟩:=Pt.Yi;have ae5:=H9 tr1;have ahB:=H9 tr2;have Py:=H9 B;have I4:=H9 ok2
 have HA:=H9 (And.intro a1 (And.intro a2 a3));have HBB:=H9 (And.intro b1 b2);have D:=H9 (And.intro d1 d2)
 have hx1:Pt.x1.kind=1∧Pt.x1.conn=0∧Pt.x1.n=0:=⟨rfl,rfl,rfl⟩;clear tr1 tr2 tr0 z B ok2 a1 a2 a3 b1 b2 d1 d2 hP1 hb1;generalize Pt.step Pt.new Pt.x1=R1 at *;go_wp2_with fail
 refine Yk (W':=w1.alloc (K (gZ Pt.pbB).toArray 5 (73,74))) (bC w1.alloc (by rfl)) ?_;refine ZO.mono ?_;rintro e G ⟨⟨ao,uo,jR,v,gP,un,rfl,han,hun,hI1,hI2,Qj⟩,H,jM⟩;clear Qj;rw[HA.o.1];have aln:0<v:=by rw[han];exact HA.o.2.1
 have ta:decide ((v:Int) > 0)=true:=aI (by omega);have hb2:=(eY _ G).alloc (aM _) (K #[I J 0,Z ao v jR,Z uo un gP] 70);have x:=H.own (Turns.of_below (S:=fun _=>False) hb2);have b:(G.alloc (K #[I J 0,Z ao v jR,Z uo un gP] 70)).heap[G.heap.size]? = M (FD (I J 0) (Z ao v jR) (Z uo un gP)):=eX G (K #[I J 0,Z ao v jR,Z uo un gP] 70);have hs2:(G.alloc (K #[I J 0,Z ao v jR,Z uo un gP] 70)).heap.size=G.heap.size+1:=fG ..;have HD2:=x.do_ (eY _ _) hP Py.o (by have:=ae5.o;have:Pt.new.tr.length=0:=rfl;omega) Pt.x2 (bo:=U) (fU:=0) (nb:=0) (gN.nil _) (fun q=>absurd rfl q) rfl (by decide);have t:=H9 HBB.o;have HR1:=H9 b;have HS2:=H9 hs2
 have hl0:=HL.o.qL.size;have hl2:=H.qL.size;clear H x jM hI1 hI2 han hun b hs2 ZO HA HBB;generalize Pt.step R1.1 Pt.x2=R2 at *;go_wp2_with fail
 generalize (G.alloc (K #[I J 0,Z ao v jR,Z uo un gP] 70))=W2 at *;refine HD2.mono ?_;rintro e L ⟨⟨jY,d,Hl,f,N,un2,rfl,ahD,ae6,hJ1,T,hL3⟩,ahE,nZ⟩;clear ahE;rw[t.o.1];have hne:R2.2.up≠[]:=by rw[t.o.2];decide
 rw[t.o.2] at ae6 T;obtain rfl:un2=58:=ae6;have u:=(eY _ L).alloc (aM _) (K #[I J 0,Z jY f Hl,Z d 58 N] 70);have y:=hL3.own (Turns.of_below (S:=fun k=>(_:Prop)) u);have b:=nZ.EN HR1.o (fun e=>e.2 ⟨Or.inr (aM _),by have:=HS2.o;omega⟩);have i:(L.alloc (K #[I J 0,Z jY f Hl,Z d 58 N] 70)).heap[L.heap.size]? = M (FD (I J 0) (Z jY f Hl) (Z d 58 N)):=eX L (K #[I J 0,Z jY f Hl,Z d 58 N] 70);have hz3:=nZ.size;have hs3:(L.alloc (K #[I J 0,Z jY f Hl,Z d 58 N] 70)).heap.size=L.heap.size+1:=fG ..;have hlt1:=(aL.1 b).1;have ahF:=H9 ((u.block _ hlt1).trans b);have HJ2:=H9 (T.stay u);have HD3:=y.do_ (eY _ _) hP I4.o (by have:=ae5.o;have:=ahB.o;have:Pt.new.tr.length=0:=rfl;omega) Pt.x2 (bo:=U) (fU:=0) (nb:=0) (gN.nil _) (fun q=>absurd rfl q) rfl (by decide);have HR2:=H9 i;have yV:=H9 hs3;have HNe:=H9 hne
 clear hne hL3 y nZ hJ1 T ahD b i hs3 HD2 t u HR1;generalize Pt.step R2.1 Pt.x2=R3 at *;go_wp2_with fail
 generalize (L.alloc (K #[I J 0,Z jY f Hl,Z d 58 N] 70))=W3 at *;refine HD3.mono ?_;rintro e w4 ⟨⟨kS,j,Ho,m,Hq,r,rfl,ahG,ahH,hK1,hK2,hK3⟩,hL4,vP⟩;clear ahG ahH hK1 hK2 hK3;rw[D.o.1];have s:=(eY _ w4).alloc (aM _) (K #[I J 19,Z kS m Ho,Z j r Hq] 70);have b:=vP.EN ahF.o (fun e=>e.2 ⟨Or.inl (Or.inl ⟨Or.inr (aM _),by have:=HS2.o;omega⟩),by have:=yV.o;omega⟩);have i:=vP.EN HR2.o (fun e=>e.2 ⟨Or.inr (aM _),by have:=yV.o;omega⟩);have hr3:(w4.alloc (K #[I J 19,Z kS m Ho,Z j r Hq] 70)).heap[w4.heap.size]? = M (FD (I J 19) (Z kS m Ho) (Z j r Hq)):=eX w4 (K #[I J 19,Z kS m Ho,Z j r Hq] 70);obtain⟨c10,c11,c12⟩:=zO ((s.block _ (aL.1 b).1).trans b);obtain⟨c20,c21,c22⟩:=zO ((s.block _ (aL.1 i).1).trans i);obtain⟨c30,c31,c32⟩:=zO hr3;have HJ4:=Uo (W:=w4.alloc (K #[I J 19,Z kS m Ho,Z j r Hq] 70)) (ao:=d) (cap:=N) (l:=Pt.pbU) (n:=58) ((HJ2.o.turns vP (fun a e e2=>e2.2 ⟨Or.inl (Or.inr ⟨HNe.o,by rw[e];rfl⟩),HJ2.o.older (by decide) a e⟩)).stay s) rfl;have zP:=(hL4.stay s).trail (by rw[D.o.2];decide);rw[D.o.2] at zP;have ko:=H9 (then_ hL4.qL s);clear b i hr3 hL4 vP s HD3;go_upto_region 5 with fail
 generalize (w4.alloc (K #[I J 19,Z kS m Ho,Z j r Hq] 70))=W4 at *;go_wp2_with fail
 refine zP.mono ?_;rintro e w5 ⟨ta,tc,rfl,hb5⟩;have nW:=H9 (then_ ko.o hb5);go_wp2;go_ret;exact⟨rfl,nW.o⟩
structure ae7 (w:X)(l:List Pt.aao)(ao:ak)(cap:Nat):Prop where
 is:rO w ao cap l
 pow:kC w
theorem pJ.does {w wr:X}{aaj:Nat->Prop}{p g gs:Nat}{l:List Pt.aao}{ao:ak}{cap:Nat}(k:ae7 w l ao cap)(m:Yg l)(i:Nat)(c:i<l.length)(h:pJ w aaj p g gs (Pt.run Pt.new (l.take i)) wr):
 ∃(b o:Nat) (st:UQ),ao=M ⟨b,o,U⟩∧Yf w b (o+i*4) l[i] st∧∀W,Below wr.heap.size wr W->Calls prog 27 #[Q (M ⟨p,0,U⟩),.agg #[I J l[i].kind,I J l[i].conn,I J l[i].n,Z st.bo l[i].b.length st.fU]] W fun e w'=>Yh w aaj p g gs W (Pt.run Pt.new (l.take (i+1)),(Pt.step (Pt.run Pt.new (l.take i)) l[i]).2) e w':=by
 obtain⟨b,o,st,rfl,d⟩:=k.is.at_ i c;refine⟨b,o,st,rfl,d,fun W q=>?_⟩;have f:=Pt.Ok.run l i (by omega);have s:=Pt.Px l i (by omega);have r:=Pt.Im l i c;have t:=Pt.Za l (i+1);have u:=m.few;have v:=m.sum
 have:=h.do_ q k.pow f (by omega) l[i] (d.by_.stay (then_ h.qL q)) (fun j a e=>Or.inl (d.by_.older j a e)) rfl (by omega);rw[Pt.Dq Pt.new l i c];exact this
structure Mq (s:Sr.Sh)(n k:Nat)(P:Pt.P):Prop where
 s:P.s=s
 c:∀j,k<=j->P.c j=Gt.wL
 ok:Pt.Ok P (n+27*k)
 tr:P.tr.length<=1000
theorem Mq.next {s:Sr.Sh}{n k:Nat}{P:Pt.P}(h:Mq s n k P)(b:k<4):Pt.step P ⟨1,k,0,Mj⟩=(⟨s,upd P.c k ⟨Rq.fold Rq.start Mj,Rq.hd0,[]⟩,P.tr⟩,⟨0,gbT,[]⟩)∧Mq s n (k+1) (Pt.step P ⟨1,k,0,Mj⟩).1:=by
 have e:Pt.step P ⟨1,k,0,Mj⟩=(⟨s,upd P.c k ⟨Rq.fold Rq.start Mj,Rq.hd0,[]⟩,P.tr⟩,⟨0,gbT,[]⟩):=by
  show Pt.sI P k Mj=_;unfold Pt.sI;rw[if_pos (show Pt.Y9 (k:Int) from⟨by omega,by omega⟩),Int.toNat_natCast,h.c k (aM _),aac,h.s];rfl
 refine⟨e,?_⟩;have a:=h.ok.step ⟨1,k,0,Mj⟩;refine⟨by rw[e],fun j d=>?_,a.more (by show n+27*k+27<=_;omega),by rw[e];exact h.tr⟩;rw[e];show upd P.c k _ j=_;rw[upd_ne _ _ (by omega)];exact h.c j (by omega)
theorem FK (w:X)(hP:kC w)(l:List Pt.aao)(ao:ak)(cap n:Nat)(r again:Int)(hl:rO w ao cap l)(hn:l.length=n)(hz:∀q∈l,q.b.length<=140737488355328)(hN:n<=140737488355328):
 Calls prog 7 #[Z ao n cap,I J r,I J again] w fun e w'=>e=Y (.bool true)∧Below w.heap.size w w':=by
 subst hn;have kc:=fun(w:X) (C:Array Value) (n c:Nat)=>Lib.run_convert_bytes_const (P:=prog) w 31 5 C n c underlying31 underlying5;have hcap:=hl.cap_;have HX:ae7 w l ao cap:=⟨hl,hP⟩;have HBg:=FJ w hP;have HG:Hid (∀W,Below w.heap.size w W->Calls prog 24 #[Z ao l.length cap] W fun e w'=>aaZ W l e w'):=fun W hW=>FE l ao cap l.length W (hl.stay hW) rfl hz hN;clear hl hP hz hN;go_enter func7,ntmps7;go_wp2_with fail
 refine HBg.mono ?_;rintro e w1 ⟨rfl,hb1⟩;have WS:=HG.o w1 hb1;have HB1:=H9 hb1;clear HG hb1 HBg;go_wp2_with fail
 refine WS.mono ?_;rintro e w1' ⟨b,rfl,hsm,hw⟩;rw[hw];clear hw w1' WS;cases b with
 | true =>
   go_wp2;go_ret;exact⟨rfl,HB1.o⟩
 | false =>
   have HS:=H9 (hsm rfl);clear hsm;go_wp2_with fail
   refine(Hg w1).mono ?_;rintro e w2 ⟨p,g,gs,rfl,hP2,hb2⟩;have HL2:=H9 (pJ.start HB1.o hP2 hb2);clear hP2 hb2;go_wp2;go_loopw [8] (fun vi wr=>∃i:Nat,i<=l.length∧vi=I J i∧pJ w (fun _=>False) p g gs (Pt.run Pt.new (l.take i)) wr) (fun vi _=>l.length-(intOf vi).toNat)
   case atStart=>exact⟨0,aA _,rfl,by rw[List.take_zero];exact HL2.o⟩
   case round =>
    clear HL2;obtain⟨i,hi,rfl,t⟩:=hrel;have ahI:=HS.o.few;by_cases hlt:i<l.length
    . have hlt':(i:Int)<l.length:=by omega
      obtain⟨T,oo,st,rfl,hA,ZO⟩:=t.does HX HS.o i hlt;have B:=hA.stay t.qL (aM _);have c0:=B.c0;have c1:=B.c1;have c2:=B.c2;have c3:=B.c3
      have u:=ZO wr (eY _ _);clear hA B ZO t;generalize (Pt.step (Pt.run Pt.new (l.take i)) l[i]).2=o at *;generalize l[i]=x at *;generalize x.b.length=nb at *;go_wp2_with fail
      refine u.mono ?_;intro e w3 hd;obtain⟨⟨kS,uo3,a3,n3,u3,m3,rfl,_,_,_,_,_⟩,f,_⟩:=hd;have Ny:=H9 f;clear f u;go_wp2;go_roundw
      case rel=>exact⟨i+1,by omega,by go_num,Ny.o⟩
      case measure=>simp[intOf];omega
    . obtain rfl:i=l.length:=by omega
      have v:=Pt.Ok.run l l.length (aM _);have htr:=Pt.Px l l.length (aM _);rw[bN] at t v htr;have kY:=HS.o.few;have D:=HS.o.sum;obtain⟨N,hN⟩:∃N,Pt.iO l=N:=⟨_,rfl⟩;rw[hN] at v D;generalize Pt.run Pt.new l=P at *;have hcs:=Pt.EM v 0 r [];have u:=t.do_ (eY _ _) HX.pow v (by omega) ⟨5,0,r,[]⟩ (bo:=U) (fU:=0) (nb:=0) (gN.nil _) (fun q=>absurd rfl q) rfl (by omega);have hok1:Pt.Ok ⟨P.s,fun _=>Gt.wL,P.tr⟩ N:=by
       have:=v.step ⟨5,0,r,[]⟩;rw[hcs] at this;exact this
      rw[hcs] at u;have Py:=H9 hok1;have zP:=H9 htr;have HFw:=H9 kY;have EY:=H9 D
      clear t hcs v hok1 htr hN kY D HS;go_wp2_with fail
      refine u.mono ?_;intro e w3 hd;obtain⟨⟨kS,uo3,a3,n3,u3,m3,rfl,hx1,G,hx3,H,L⟩,f,hx6⟩:=hd;clear hx1 G hx3 H L hx6 u;obtain⟨ks,y2,hgl,WC⟩:=f.list Py.o.s;obtain⟨y0,y1⟩:=f.cells;have y:=WC w3 (eY _ _);have Ny:=H9 f;clear WC f;generalize hun:P.s.h.l.length=un at *;have UL:=H9 hun;clear hun;go_wp2_with fail
      refine y.mono ?_;rintro e w4 ⟨al,rfl,hU,hb4⟩;have HL4:=Ny.o.own (Turns.of_below (S:=fun _=>False) hb4);have HU4:pR w4 (fun k=>(False∨w3.heap.size<=k)∧k<w4.heap.size) 92 al un P.s.h.l:=hU.at_.mono (fun k hk e=>⟨Or.inr e,hk⟩);have HD2:=HL4.do_ (eY _ _) HX.pow Py.o (by have:=zP.o;have:=HFw.o;show P.tr.length<=_;omega) ⟨5,0,again,[]⟩ (bo:=U) (fU:=0) (nb:=0) (gN.nil _) (fun q=>absurd rfl q) rfl (by have:=EY.o;omega);rw[Pt.EM Py.o] at HD2;have ae8:=H9 HU4;clear HL4 HU4 hU hb4 y y0 y1 y2 hgl Ny;generalize (fun k=>(False∨w3.heap.size<=k)∧k<w4.heap.size)=aaj at *;go_wp2_with fail
      refine HD2.mono ?_;intro e w5 hd;obtain⟨⟨yB,uo5,a5,n5,u5,m5,rfl,hx1,G,hx3,H,L⟩,f,uO⟩:=hd;clear hx1 G hx3 H L HD2;have HU5:=H9 (ae8.o.turns uO (fun k q e=>e.2 q));have Ny:=H9 f;have Ti:Hid (Mq P.s N 0 ⟨P.s,fun _=>Gt.wL,P.tr⟩):=⟨rfl,fun _ _=>rfl,Py.o,by have:=zP.o;have:=HFw.o;show P.tr.length<=_;omega⟩;clear f uO ae8 Py zP HFw;go_wp2;go_loopw [10] (fun vk wq=>∃(k:Nat) (P':Pt.P),k<=4∧vk=I J k∧Mq P.s N k P'∧pJ w aaj p g gs P' wq∧pR wq aaj 92 al un P.s.h.l) (fun vk _=>4-(intOf vk).toNat)
      case atStart=>exact⟨0,_,by omega,rfl,Ti.o,Ny.o,HU5.o⟩
      case round =>
       clear Ti Ny HU5;obtain⟨k,P',hk,rfl,hg,t,hU⟩:=hrel;have HU:=H9 hU;clear hU;by_cases hlt:k<4
       . have hlt':(k:Int)<4:=by omega
         obtain⟨e1,hg1⟩:=hg.next hlt;have hHD:=t.do_ ((eY _ wr).alloc (aM _) (K #[I .u8 71,I .u8 69,I .u8 84,I .u8 32,I .u8 47,I .u8 32,I .u8 72,I .u8 84,I .u8 84,I .u8 80,I .u8 47,I .u8 49,I .u8 46,I .u8 49,I .u8 13,I .u8 10,I .u8 72,I .u8 111,I .u8 115,I .u8 116,I .u8 58,I .u8 32,I .u8 97,I .u8 13,I .u8 10,I .u8 13,I .u8 10] 5 (27,28))) HX.pow hg.ok (by have:=hg.tr;omega) ⟨1,k,0,Mj⟩ (nb:=27) (acw wr) (fun _ a e=>by injection e with e;subst e;exact Or.inr (aM _)) (rfl:Mj.length=27) (by have:=EY.o;omega);have HD:Calls prog 27 #[Q (M ⟨p,0,U⟩),.agg #[I J 1,I J (k:Int),I J 0,Z (M ⟨wr.heap.size,0,U⟩) 27 27]] (wr.alloc (K #[I .u8 71,I .u8 69,I .u8 84,I .u8 32,I .u8 47,I .u8 32,I .u8 72,I .u8 84,I .u8 84,I .u8 80,I .u8 47,I .u8 49,I .u8 46,I .u8 49,I .u8 13,I .u8 10,I .u8 72,I .u8 111,I .u8 115,I .u8 116,I .u8 58,I .u8 32,I .u8 97,I .u8 13,I .u8 10,I .u8 13,I .u8 10] 5 (27,28))) fun e w'=>Yh w aaj p g gs (wr.alloc (K #[I .u8 71,I .u8 69,I .u8 84,I .u8 32,I .u8 47,I .u8 32,I .u8 72,I .u8 84,I .u8 84,I .u8 80,I .u8 47,I .u8 49,I .u8 46,I .u8 49,I .u8 13,I .u8 10,I .u8 72,I .u8 111,I .u8 115,I .u8 116,I .u8 58,I .u8 32,I .u8 97,I .u8 13,I .u8 10,I .u8 13,I .u8 10] 5 (27,28))) (Pt.step P' ⟨1,k,0,Mj⟩) e w':=hHD;have e2:(Pt.step P' ⟨1,k,0,Mj⟩).2=⟨0,gbT,[]⟩:=by rw[e1]
         have HE2:=H9 e2;have WS:=H9 hg1
         have hba:=(eY _ wr).alloc (aM _) (K #[I .u8 71,I .u8 69,I .u8 84,I .u8 32,I .u8 47,I .u8 32,I .u8 72,I .u8 84,I .u8 84,I .u8 80,I .u8 47,I .u8 49,I .u8 46,I .u8 49,I .u8 13,I .u8 10,I .u8 72,I .u8 111,I .u8 115,I .u8 116,I .u8 58,I .u8 32,I .u8 97,I .u8 13,I .u8 10,I .u8 13,I .u8 10] 5 (27,28));have HUa:=H9 (HU.o.stay hba);clear e1 e2 hg1 hHD hg t hba HU;generalize Pt.step P' ⟨1,k,0,Mj⟩=aak at *;go_wp2_with fail
         refine HD.mono ?_;intro e w6 hd;obtain⟨⟨ao6,j,d,n6,m,m6,he,hn6,G,hI6,H,L⟩,f,zG⟩:=hd;rw[HE2.o] at he hn6 hI6;obtain rfl:n6=45:=hn6;obtain⟨T,oo,rfl,_⟩:=hI6.lit (by decide);subst he;have UM:=(eY _ w6).alloc (aM _) (K #[I J 0,Z (M ⟨T,oo,U⟩) 45 d,Z j m6 m] 70);have hI7:=hI6.stay UM;have hcp:=hI7.1;have hcut:=hI7.cut (gJ:=M ⟨T,oo+9,U⟩) 9 12 (by decide) (by decide) (fun _=>rfl);have hcv:=hcut.str (P:=prog) 31 9 5 underlying31 underlying5 underlying9;replace hcv:(convert 31 9 (Z (M ⟨T,oo+9,U⟩) 3 (d-9))).run prog (w6.alloc (K #[I J 0,Z (M ⟨T,oo,U⟩) 45 d,Z j m6 m] 70))=.ok (.string ⟨#[52,48,52]⟩) (w6.alloc (K #[I J 0,Z (M ⟨T,oo,U⟩) 45 d,Z j m6 m] 70)):=hcv;have hr7:(w6.alloc (K #[I J 0,Z (M ⟨T,oo,U⟩) 45 d,Z j m6 m] 70)).heap[w6.heap.size]? = M (FD (I J 0) (Z (M ⟨T,oo,U⟩) 45 d) (Z j m6 m)):=eX w6 (K #[I J 0,Z (M ⟨T,oo,U⟩) 45 d,Z j m6 m] 70);obtain⟨c0,c1,c2⟩:=zO hr7;have ahL:=H9 (f.stay UM);have HU7:=H9 ((HUa.o.turns zG (fun k q e=>e.2 q)).stay UM);have ajr:(12:Int)<=(d:Int):=by have hcp:45<=d:=hcp;omega
         have ajs:45<=d:=hcp;clear G H L f zG hI6 hI7 hcp hcut hr7 UM HUa HD;generalize hW7:(w6.alloc (K #[I J 0,Z (M ⟨T,oo,U⟩) 45 d,Z j m6 m] 70))=W7 at *;go_wp2;go_roundw
         case rel=>exact⟨k+1,aak.1,by omega,by go_num,WS.o,ahL.o,HU7.o⟩
         case measure=>simp[intOf];omega
       . obtain rfl:k=4:=by omega
         obtain⟨ks',y2,hgl,WC⟩:=t.list hg.ok.s;obtain⟨y0,y1⟩:=t.cells;have y:=WC wr (eY _ _);rw[hg.s,UL.o] at y;have HSo:Hid (∀W z,Below wr.heap.size wr W->rz W z un P.s.h.l->Calls prog 19 #[Z al un un,Z z un un] W fun e w'=>e=Y (.bool true)∧Below W.heap.size W w'):=fun W z hW hI=>by
          have kY:=hg.ok.s.h.few;rw[hg.s,UL.o] at kY;have:=Mk P.s.h.l al z un un W (by have:=(HU.o.stay hW).ze;exact this) (by exact hI) (by rw[UL.o];omega);rw[UL.o] at this;exact this.mono fun e w' ⟨g1,q,g2⟩=>⟨g1,by rw[g2];exact kW W q⟩
         have Yx:=H9 t.qL;clear WC t hg;go_wp2_with fail
         refine y.mono ?_;rintro e w6 ⟨z,rfl,hU6,hb6⟩;have HS6:=HSo.o w6 z hb6 hU6.ze;have vV:=H9 (then_ Yx.o hb6);clear hU6 hb6 HSo y y0 y1 y2 hgl;go_wp2_with fail
         refine HS6.mono ?_;rintro e w7 ⟨rfl,UM⟩;have OJ:=H9 (then_ vV.o UM);go_wp2;go_ret;exact⟨rfl,OJ.o⟩
end Go.Proofs.YthhklgjjnaeaoaaGreatDoor