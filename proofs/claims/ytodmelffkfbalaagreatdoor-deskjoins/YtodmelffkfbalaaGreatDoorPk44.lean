import Derived.Test.YtodmelffkfbalaaGreatDoorFbPow
import Derived.Test.YtodmelffkfbalaaGreatDoorPk36
open Go.Value renaming int->I,string->V,slice->Z
open Go.IntKind renaming i64->J
open Go.Obj renaming cells->K
open Go.Ending renaming returned->Y
open Option renaming none->U,some->M
open Bool renaming false->F
open Go renaming World->X
set_option maxHeartbeats 1600000
open Go.Proofs.Tryz
namespace Go.Proofs.YtodmelffkfbalaaGreatDoor
open Go.RowKit
inductive zf (w:X)(l:ab):Ending->X->Prop
 | no {w'} (m:Int):kA l=U->Below w.heap.size w w'->zf w l (Y (.tuple #[I J m,.bool F])) w'
 | yes {w'} (n:Int):kA l=M n->Below w.heap.size w w'->zf w l (Y (.tuple #[I J n,.bool true])) w'
theorem B6 (s:ae)(w:World)(hs:s.size<=maxLen)(hP:dj w):
 Calls prog 203 #[.string s] w fun e w'=>zf w s.data.toList e w':=by
 have HN:=sV s w hs;have hsm:=tP (l:=s.data.toList);have hno:((bB 10 9 s.data.toList).2=false∨jc (bB 10 9 s.data.toList).1.toNat≠s.data.toList)->kA s.data.toList=none:=fun h=>by
  unfold kA;rw[if_neg];rintro ⟨h1,h2⟩;rcases h with h | h
  . rw[h] at h1;cases h1
  . exact h h2
 have hye:(bB 10 9 s.data.toList).2=true->jc (bB 10 9 s.data.toList).1.toNat=s.data.toList->kA s.data.toList=some (bB 10 9 s.data.toList).1:=fun h1 h2=>by
  unfold kA;rw[if_pos ⟨h1,h2⟩]
 generalize bB 10 9 s.data.toList=p at *;obtain⟨n,ok⟩:=p;simp only at HN hsm hno hye;cases ok with
 | false =>
   have HR:=hno (Or.inl rfl);clear hsm hno hye;go_enter func203,ntmps203;go_wp2_with fail;refine HN.mono ?_;rintro e w1 ⟨rfl,hw⟩;subst hw;go_wp2;go_ret2;exact .no n HR (ar _ _)
 | true =>
   obtain⟨h0,h1⟩:=hsm rfl;have HI:=mE n.toNat (by omega) w hP;rw[show((n.toNat:Nat):Int)=n from by omega] at HI;obtain⟨t,ht⟩:∃t,(bx 8 n.toNat==s.toList)=t:=⟨_,rfl⟩;have HR:Hid ((t=true->kA s.data.toList=some n)∧(t=false->kA s.data.toList=none)):=by
    rw[Lib.toList_data] at ht;refine⟨fun e=>hye rfl ?_,fun e=>hno (Or.inr ?_)⟩
    . rw[e] at ht;exact cR.1 ht
    . rw[e] at ht;exact fun e2=>absurd e2 (aQ.1 ht)
   generalize bx 8 n.toNat=d at *;clear hno hye hsm h0 h1;go_enter func203,ntmps203;go_wp2_with fail;refine HN.mono ?_;rintro e w1 ⟨rfl,hw⟩;subst hw;go_wp2_with fail;refine HI.mono ?_;rintro e w1 ⟨rfl,hb⟩;have HB:=aa hb;clear hb;go_wp2;go_ret2;cases t with
   | true=>exact .yes n (HR.o.1 rfl) HB.o
   | false=>exact .no n (HR.o.2 rfl) HB.o
theorem pU (xs:List ae)(bk n:Nat)(w:X)(d:xs.length=n)(k:0<n)(a:∀(j:Nat) x,xs[j]? = M x->w.cell? ⟨bk,j,U⟩=M (V x))(f:(([32]:ab).intercalate (xs.map (·.data.toList))).length<=100000000000)(l:n<=1000000):
 Calls prog 140 #[Z (M ⟨bk,0,U⟩) n n] w fun e w'=>e=Y (V ⟨(fM (xs.map (·.data.toList))).toArray⟩)∧Below w.heap.size w w':=by
 have g:=Any.strings_Join Tryz.lays156 vD bk 0 n xs ⟨#[32]⟩ w (fun j x b=>by rw[ee];exact a j x b) (by
  obtain⟨x,b⟩:∃x,xs[0]? = M x:=⟨xs[0],iz (by omega)⟩;exact bY w _ (a 0 x b)) (by omega) (by omega) (by
  show(([32]:ab).intercalate (xs.map (·.data.toList))).length<=_;omega)
 rw[d] at g;have m:Hid (fM (xs.map (·.data.toList))=Lib.join (xs.map (·.data.toList)) (⟨#[32]⟩:ae).data.toList++[10]):=rfl;have c:(Lib.join (xs.map (·.data.toList)) (⟨#[32]⟩:ae).data.toList).length<=100000000000:=f;generalize Lib.join (xs.map (·.data.toList)) (⟨#[32]⟩:ae).data.toList=j at *;have p:(⟨j.toArray⟩:ae).size<=100000000000:=by show j.toArray.size<=_;rw[cz];exact c
 clear f a d k;go_enter func140,ntmps140;go_wp2_with fail;refine g.mono ?_;rintro e r ⟨rfl,i⟩;have q:=aa i;clear i;go_wp2;go_ret;exact⟨by rw[m.o];exact ru (yU (by rw[ma])),q.o⟩
def mM:Value:=.agg #[I J 0,I J 0,I J 0,Z U 0 0]
inductive wl (w:X)(o:Option kJ):Ending->X->Prop
 | no {w'}:o=U->Below w.heap.size w w'->wl w o (Y (.tuple #[mM,.bool F])) w'
 | yes {w'} (x:kJ) (ao:ag) (cap m:Nat):o=M x->m=x.b.length->bl w' w.heap.size 5 ao cap x.b->Below w.heap.size w w'->wl w o (Y (.tuple #[.agg #[I J x.c,I J x.a,I J x.n,Z ao m cap],.bool true])) w'
theorem IH (s:ae):(s.extract 0 (aV 32 s.data.toList)).data.toList=mc s.data.toList:=by
 rw[Lib.extract_data];simp[mc]
theorem Iz (s:ae):(s.extract (aV 32 s.data.toList+1) s.size).data.toList=nI s.data.toList:=zj s _
theorem Cy (s:ae)(w:X)(g:s.size<=1000000):
 Calls prog 201 #[V s,V ⟨#[32]⟩] w fun e w'=>∃a b t,e=Y (.tuple #[V a,V b,.bool t])∧(a.data.toList=mc s.data.toList∧b.data.toList=nI s.data.toList∧a.size<=s.size∧b.size<=s.size∧(t=true<->aV 32 s.data.toList<s.data.toList.length))∧Below w.heap.size w w':=by
 have d:=cH s;refine(rv s 32 w (by unfold maxLen;omega)).mono ?_;rintro e w' ⟨rfl,c⟩;unfold jV;have f:aV 32 s.data.toList<=s.data.toList.length:=by rcases Da s.data.toList 32 with ⟨_,h⟩ | ⟨_,h⟩ <;> omega
 by_cases h:aV 32 s.data.toList=s.size
 . rw[if_pos h];refine⟨s,⟨#[]⟩,F,rfl,⟨?_,?_,ak _,ax _,?_⟩,iZ c⟩
   . unfold mc;rw[gF (by omega)]
   . unfold nI;rw[List.drop_of_length_le (by omega)]
   . rw[h,d];simp
 . rw[if_neg h];refine⟨_,_,true,rfl,⟨IH s,Iz s,?_,?_,?_⟩,iZ c⟩
   . rw[ByteArray.size_extract];omega
   . rw[ByteArray.size_extract];omega
   . simp only[true_iff];omega
theorem MJ (s:ae)(w:X)(hs:s.size<=1000000)(hP:dj w):
 Calls prog 202 #[V s] w fun e w'=>wl w (oz s.data.toList) e w':=by
 have u:=(ar _ w).alloc (ak _) (K #[I J 0,I J 0,I J 0,Z U 0 0] 73);have HC:=Cy s (w.alloc (K #[I J 0,I J 0,I J 0,Z U 0 0] 73)) hs;have N:(w.alloc (K #[I J 0,I J 0,I J 0,Z U 0 0] 73)).heap[w.heap.size]? = _:=aX w _;have HP:=aa (hP.a u);have S:=aa u;have Dy:=aa N
 have T:w.heap.size<(w.alloc (K #[I J 0,I J 0,I J 0,Z U 0 0] 73)).heap.size:=by rw[bF];omega
 have x:=aa T;clear u N hP T;go_enter func202,ntmps202;go_wp2_with fail;generalize w.alloc (K #[I J 0,I J 0,I J 0,Z U 0 0] 73)=w0 at *;refine HC.mono ?_;rintro e w1 ⟨a,b,t,rfl,⟨ha,hb,hza,hzb,ht⟩,y⟩;have HN:=B6 a w1 (by unfold maxLen;omega) (HP.o.a y);rw[ha] at HN;have HB1:=aa y;clear HC y ha hza;go_wp2_with fail;refine HN.mono ?_;intro e w2 ho;have HM:=fun W=>SF b W (by omega);rw[hb] at HM;obtain⟨n,i,rfl,hon,hb2⟩:∃n i,e=Y (.tuple #[I J n,.bool i])∧((i=true∧kA (mc s.data.toList)=M n)∨(i=F∧kA (mc s.data.toList)=U))∧Below w1.heap.size w1 w2:=by
  cases ho with
  | no m z B=>exact⟨m,F,rfl,Or.inr ⟨rfl,z⟩,B⟩
  | yes m z B=>exact⟨m,true,rfl,Or.inl ⟨rfl,z⟩,B⟩
 have C:=aa (au HB1.o hb2);have k:=aa hon;have HT:=aa ht
 clear ho hb2 hon HN HB1 hb hzb ht;go_wp2_with fail;refine(HM _).mono ?_;intro e g ho;obtain⟨l,r,d,m,j,rfl,hom,hO,D⟩:∃l r d m j,e=Y (.tuple #[Z r m d,.bool j])∧((j=true∧m=List.length l∧je (nI s.data.toList)=M l)∨(j=F∧je (nI s.data.toList)=U))∧(j=true->bl g w2.heap.size 5 r d l)∧Below w2.heap.size w2 g:=by
  cases ho with
  | no z B=>exact⟨[],U,0,0,F,rfl,Or.inr ⟨rfl,z⟩,(fun e=>by cases e),B⟩
  | yes l r d m z B h3 h4=>exact⟨l,r,d,m,true,rfl,Or.inl ⟨rfl,B,z⟩,fun _=>h3,h4⟩
 have G:=au C.o D;have c:=(G.block _ x.o).trans Dy.o;have hzz:=S.o.trans (G.mono S.o.size);have p:=aa hzz;have q:=aa hom;have HO:=aa hO;have HR3:=aa c
 have Cx:=aa (show w0.heap.size<=w2.heap.size from C.o.size);have am6:=aa D.size
 have z0:=aq g _ 0 _ _ _ c;have z1:=aq g _ 1 _ _ _ c;have z2:=aq g _ 2 _ _ _ c;have z3:=aq g _ 3 _ _ _ c
 have y0:=aN g _ 0 _ _ c;have y1:=aN g _ 1 _ _ c;have y2:=aN g _ 2 _ _ c;have y3:=aN g _ 3 _ _ c
 simp at z0 z1 z2 z3;clear ho D G hom hO c hzz C Dy HM;obtain⟨CX,Bn⟩:=lT HR3.o (I J 0) (I J 0) (I J 0) (Z U 0 0);obtain⟨hrB,H⟩:=lT HR3.o (I J 1) (I J n) (I J 0) (Z r m d);have Kr:=aa CX;have HRB:=aa hrB
 have uh:=aa (p.o.trans (Bn.below (fun _ e=>Nat.le_of_eq e.symm) p.o.size));have HBB:=aa (p.o.trans (H.below (fun _ e=>Nat.le_of_eq e.symm) p.o.size))
 have HTB:=aa H;clear CX Bn hrB H;have sS:Hid ((¬aV 32 s.data.toList<s.data.toList.length∨i=F∨j=F)->oz s.data.toList=U):=fun h=>by
  unfold oz;rcases k.o with ⟨e1,L⟩ | ⟨e1,L⟩
  . rcases q.o with ⟨e3,e4,e5⟩ | ⟨e3,e4⟩
    . rw[L,e5];subst e1;subst e3;simp only[reduceCtorEq,or_false] at h;simp only;rw[if_neg h]
    . rw[L,e4]
  . rw[L]
 by_cases f:t=true∧i=true∧j=true
 . obtain⟨rfl,rfl,rfl⟩:=f;have HYe:Hid (oz s.data.toList=M ⟨1,n,0,l⟩∧m=l.length):=by
    rcases k.o with ⟨_,L⟩ | ⟨e,_⟩
    . rcases q.o with ⟨_,e4,e5⟩ | ⟨e,_⟩
      . refine⟨?_,e4⟩;unfold oz;rw[L,e5];simp only;rw[if_pos (HT.o.1 rfl)]
      . cases e
    . cases e
   clear k q HT sS Kr uh;go_wp2;generalize ((((g.setCell ⟨w.heap.size,0,U⟩ _).setCell ⟨w.heap.size,1,U⟩ _).setCell ⟨w.heap.size,2,U⟩ _).setCell ⟨w.heap.size,3,U⟩ _)=wf at *;obtain⟨⟨r0,r1,r2,r3⟩,_⟩:=dU HRB.o;refine aR (v:=.tuple #[.agg #[I J 1,I J n,I J 0,Z r m d],.bool true]) (by simp[results,results202,go_sem,r0,r1,r2,r3]) rfl ?_;exact .yes ⟨1,n,0,l⟩ r d m HYe.o.1 HYe.o.2 (((HO.o trivial).j HTB.o (fun a e L=>by have:=((HO.o trivial).a a e).1;have:=Cx.o;have:=x.o;omega)).B (by have:=Cx.o;have:=x.o;omega)) HBB.o
 . have HZ:Hid (oz s.data.toList=U):=sS.o (by
    cases t with
    | false=>exact Or.inl (fun h=>by cases HT.o.2 h)
    | true=>cases i <;> cases j <;> simp at f ⊢)
   have h3:(t=F)∨(t=true∧i=F)∨(t=true∧i=true∧j=F):=by cases t <;> cases i <;> cases j <;> simp at f ⊢
   clear k q HT sS HRB HBB HTB HO f;rcases h3 with rfl | ⟨rfl,rfl⟩ | ⟨rfl,rfl,rfl⟩;all_goals
    go_wp2;generalize ((((g.setCell ⟨w.heap.size,0,U⟩ _).setCell ⟨w.heap.size,1,U⟩ _).setCell ⟨w.heap.size,2,U⟩ _).setCell ⟨w.heap.size,3,U⟩ _)=wf at *;obtain⟨⟨r0,r1,r2,r3⟩,_⟩:=dU Kr.o;refine aR (v:=.tuple #[mM,.bool F]) (by simp[results,results202,go_sem,r0,r1,r2,r3,mM]) rfl ?_;exact .no HZ.o uh.o
theorem N9 (s:ae)(w:X)(hs:s.size<=1000000)(hP:dj w):
 Calls prog 142 #[V s] w fun e w'=>wl w (qm s.data.toList) e w':=by
 have N:=(ar _ w).alloc (ak _) (K #[I J 0,I J 0,I J 0,Z U 0 0] 73);have HC:=Cy s (w.alloc (K #[I J 0,I J 0,I J 0,Z U 0 0] 73)) hs;have hr0:(w.alloc (K #[I J 0,I J 0,I J 0,Z U 0 0] 73)).heap[w.heap.size]? = _:=aX w _;have HP:=aa (hP.a N);have l:=aa N;have Dy:=aa hr0
 have D:=aa (show w.heap.size<(w.alloc (K #[I J 0,I J 0,I J 0,Z U 0 0] 73)).heap.size by rw[bF];omega);clear N hr0 hP;obtain⟨O,NN⟩:∃O,qm s.data.toList=O:=⟨_,rfl⟩;rw[NN];unfold qm at NN;go_enter func142,ntmps142;go_wp2_with fail;generalize w.alloc (K #[I J 0,I J 0,I J 0,Z U 0 0] 73)=w0 at *;refine HC.mono ?_;rintro e w1 ⟨a,b,t,rfl,⟨ha,hb,hza,hzb,_⟩,S⟩;rw[<-ha,<-hb] at NN;have M7:=aa (HP.o.a S);have G:=aa S
 have j:=aa NN;clear HC S ha hb hza NN HP;by_cases hw:a.data.toList=CE
 . have t0:(a.toList==[98,121,116,101,115])=true:=by rw[Lib.toList_data,hw];rfl
   rw[if_pos hw] at j;have T:=MJ b w1 (by omega) M7.o;go_wp2_with fail;refine T.mono ?_;intro e H ho;cases ho with
   | no B L =>
     have c:=au G.o L;have g:=(c.block _ D.o).trans Dy.o;obtain⟨⟨z0,z1,z2,z3⟩,y0,y1,y2,y3⟩:=dU g;obtain⟨i,f⟩:=lT g (I J 0) (I J 0) (I J 0) (Z U 0 0);have p:=aa i;have q:=aa ((l.o.trans (c.mono l.o.size)).trans (f.below (fun _ e=>Nat.le_of_eq e.symm) (by have:=c.size;have:=l.o.size;omega)));have HN:=aa (j.o.symm.trans B);clear B L c g i f T;unfold mM;go_wp2;generalize ((((H.setCell ⟨w.heap.size,0,U⟩ _).setCell ⟨w.heap.size,1,U⟩ _).setCell ⟨w.heap.size,2,U⟩ _).setCell ⟨w.heap.size,3,U⟩ _)=W at *;obtain⟨⟨r,u,y,z⟩,_⟩:=dU p.o;refine aR (v:=.tuple #[mM,.bool F]) (by simp[results,results142,go_sem,r,u,y,z,mM]) rfl ?_;exact .no HN.o q.o
   | yes x ao cap m B hm hO L =>
     have c:=au G.o L;have g:=(c.block _ D.o).trans Dy.o;obtain⟨⟨z0,z1,z2,z3⟩,y0,y1,y2,y3⟩:=dU g;obtain⟨i,f⟩:=lT g (I J x.c) (I J x.a) (I J x.n) (Z ao m cap);have p:=aa i;have q:=aa ((l.o.trans (c.mono l.o.size)).trans (f.below (fun _ e=>Nat.le_of_eq e.symm) (by have:=c.size;have:=l.o.size;omega)));have HN:=aa (j.o.symm.trans B);have EP:=aa ((hO.j f (fun a e e2=>by have:=(hO.a a e).1;have:=G.o.size;have:=D.o;omega)).B (base':=w.heap.size) (by have:=G.o.size;have:=D.o;omega));have HM:=aa hm;clear B L c g i f T hO hm;go_wp2;generalize ((((H.setCell ⟨w.heap.size,0,U⟩ _).setCell ⟨w.heap.size,1,U⟩ _).setCell ⟨w.heap.size,2,U⟩ _).setCell ⟨w.heap.size,3,U⟩ _)=W at *;obtain⟨⟨r,u,y,z⟩,_⟩:=dU p.o;refine aR (v:=.tuple #[.agg #[I J x.c,I J x.a,I J x.n,Z ao m cap],.bool true]) (by simp[results,results142,go_sem,r,u,y,z]) rfl ?_;exact .yes x ao cap m HN.o HM.o EP.o q.o
 . have t0:(a.toList==[98,121,116,101,115])=F:=by rw[Lib.toList_data];exact aQ.2 hw
   rw[if_neg hw] at j;have OQ:=B6 b w1 (by unfold maxLen;omega) M7.o;go_wp2_with fail;refine OQ.mono ?_;intro e H ho;clear OQ hw;obtain⟨n,on,rfl,hon,hb2⟩:∃n on,e=Y (.tuple #[I J n,.bool on])∧((on=true∧kA b.data.toList=M n)∨(on=F∧kA b.data.toList=U))∧Below w1.heap.size w1 H:=by
    cases ho with
    | no m B L=>exact⟨m,F,rfl,Or.inr ⟨rfl,B⟩,L⟩
    | yes m B L=>exact⟨m,true,rfl,Or.inl ⟨rfl,B⟩,L⟩
   have c:=au G.o hb2;have g:=(c.block _ D.o).trans Dy.o;obtain⟨⟨z0,z1,z2,z3⟩,y0,y1,y2,y3⟩:=dU g;have HS:=aa (fun c0 c1 c2 c3=>lT g c0 c1 c2 c3);have d:=aa (l.o.trans (c.mono l.o.size));clear ho hb2 c g;rcases hon with ⟨rfl,B⟩ | ⟨rfl,B⟩
   . rw[B] at j;simp only at j;have C:Hid (∀k,(a.data.toList=k->(a.toList==k)=true)∧(a.data.toList≠k->(a.toList==k)=F)):=fun k=>by
      rw[Lib.toList_data];exact⟨fun h=>cR.2 h,fun h=>aQ.2 h⟩
     by_cases e1:a.data.toList=CJ
     . have u1:(a.toList==[100,114,111,112])=true:=(C.o _).1 e1;rw[if_pos e1] at j;obtain⟨i,f⟩:=HS.o (I J 2) (I J n) (I J 0) (Z U 0 0);have p:=aa i;have q:=aa (d.o.trans (f.below (fun _ e=>Nat.le_of_eq e.symm) d.o.size))
       clear i f C;go_wp2;generalize ((((H.setCell ⟨w.heap.size,0,U⟩ _).setCell ⟨w.heap.size,1,U⟩ _).setCell ⟨w.heap.size,2,U⟩ _).setCell ⟨w.heap.size,3,U⟩ _)=W at *;obtain⟨⟨r,u,y,z⟩,_⟩:=dU p.o;refine aR (v:=.tuple #[.agg #[I J 2,I J n,I J 0,Z U 0 0],.bool true]) (by simp[results,results142,go_sem,r,u,y,z]) rfl ?_;exact .yes ⟨2,n,0,[]⟩ U 0 0 j.o.symm rfl (bl.y _ _ _) q.o
     have u1:(a.toList==[100,114,111,112])=F:=(C.o _).2 e1;rw[if_neg e1] at j;by_cases e2:a.data.toList=CL
     . have u2:(a.toList==[115,101,110,100])=true:=(C.o _).1 e2;rw[if_pos e2] at j;obtain⟨i,f⟩:=HS.o (I J 3) (I J 0) (I J n) (Z U 0 0);have p:=aa i;have q:=aa (d.o.trans (f.below (fun _ e=>Nat.le_of_eq e.symm) d.o.size))
       clear i f C;go_wp2;generalize ((((H.setCell ⟨w.heap.size,0,U⟩ _).setCell ⟨w.heap.size,1,U⟩ _).setCell ⟨w.heap.size,2,U⟩ _).setCell ⟨w.heap.size,3,U⟩ _)=W at *;obtain⟨⟨r,u,y,z⟩,_⟩:=dU p.o;refine aR (v:=.tuple #[.agg #[I J 3,I J 0,I J n,Z U 0 0],.bool true]) (by simp[results,results142,go_sem,r,u,y,z]) rfl ?_;exact .yes ⟨3,0,n,[]⟩ U 0 0 j.o.symm rfl (bl.y _ _ _) q.o
     have u2:(a.toList==[115,101,110,100])=F:=(C.o _).2 e2;rw[if_neg e2] at j;by_cases e3:a.data.toList=CM
     . have u3:(a.toList==[116,111,108,100])=true:=(C.o _).1 e3;rw[if_pos e3] at j;obtain⟨i,f⟩:=HS.o (I J 4) (I J 0) (I J n) (Z U 0 0);have p:=aa i;have q:=aa (d.o.trans (f.below (fun _ e=>Nat.le_of_eq e.symm) d.o.size))
       clear i f C;go_wp2;generalize ((((H.setCell ⟨w.heap.size,0,U⟩ _).setCell ⟨w.heap.size,1,U⟩ _).setCell ⟨w.heap.size,2,U⟩ _).setCell ⟨w.heap.size,3,U⟩ _)=W at *;obtain⟨⟨r,u,y,z⟩,_⟩:=dU p.o;refine aR (v:=.tuple #[.agg #[I J 4,I J 0,I J n,Z U 0 0],.bool true]) (by simp[results,results142,go_sem,r,u,y,z]) rfl ?_;exact .yes ⟨4,0,n,[]⟩ U 0 0 j.o.symm rfl (bl.y _ _ _) q.o
     have u3:(a.toList==[116,111,108,100])=F:=(C.o _).2 e3;rw[if_neg e3] at j;by_cases e4:a.data.toList=CF
     . have u4:(a.toList==[99,114,97,115,104])=true:=(C.o _).1 e4;rw[if_pos e4] at j;obtain⟨i,f⟩:=HS.o (I J 5) (I J 0) (I J n) (Z U 0 0);have p:=aa i;have q:=aa (d.o.trans (f.below (fun _ e=>Nat.le_of_eq e.symm) d.o.size))
       clear i f C;go_wp2;generalize ((((H.setCell ⟨w.heap.size,0,U⟩ _).setCell ⟨w.heap.size,1,U⟩ _).setCell ⟨w.heap.size,2,U⟩ _).setCell ⟨w.heap.size,3,U⟩ _)=W at *;obtain⟨⟨r,u,y,z⟩,_⟩:=dU p.o;refine aR (v:=.tuple #[.agg #[I J 5,I J 0,I J n,Z U 0 0],.bool true]) (by simp[results,results142,go_sem,r,u,y,z]) rfl ?_;exact .yes ⟨5,0,n,[]⟩ U 0 0 j.o.symm rfl (bl.y _ _ _) q.o
     have u4:(a.toList==[99,114,97,115,104])=F:=(C.o _).2 e4;rw[if_neg e4] at j;obtain⟨i,f⟩:=HS.o (I J 0) (I J 0) (I J 0) (Z U 0 0);have p:=aa i;have q:=aa (d.o.trans (f.below (fun _ e=>Nat.le_of_eq e.symm) d.o.size))
     clear i f C;go_wp2;generalize ((((H.setCell ⟨w.heap.size,0,U⟩ _).setCell ⟨w.heap.size,1,U⟩ _).setCell ⟨w.heap.size,2,U⟩ _).setCell ⟨w.heap.size,3,U⟩ _)=W at *;obtain⟨⟨r,u,y,z⟩,_⟩:=dU p.o;refine aR (v:=.tuple #[mM,.bool F]) (by simp[results,results142,go_sem,r,u,y,z,mM]) rfl ?_;exact .no j.o.symm q.o
   . rw[B] at j;obtain⟨i,f⟩:=HS.o (I J 0) (I J 0) (I J 0) (Z U 0 0);have p:=aa i;have q:=aa (d.o.trans (f.below (fun _ e=>Nat.le_of_eq e.symm) d.o.size))
     clear i f;go_wp2;generalize ((((H.setCell ⟨w.heap.size,0,U⟩ _).setCell ⟨w.heap.size,1,U⟩ _).setCell ⟨w.heap.size,2,U⟩ _).setCell ⟨w.heap.size,3,U⟩ _)=W at *;obtain⟨⟨r,u,y,z⟩,_⟩:=dU p.o;refine aR (v:=.tuple #[mM,.bool F]) (by simp[results,results142,go_sem,r,u,y,z,mM]) rfl ?_;exact .no j.o.symm q.o
