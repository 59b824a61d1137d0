import Derived.Test.YtmbghcpcbdjfoaaGreatDoorPk40
open Go.Value renaming int->I,string->V,slice->Z,pointer->Q
open Go.IntKind renaming i64->J
open Go.Obj renaming cells->K
open Go.Ending renaming returned->Y
open Option renaming none->U,some->M
open Bool renaming false->F
open Go renaming World->X
set_option maxHeartbeats 12800000
set_option maxRecDepth 100000
open Go.Proofs.Tryz
namespace Go.Proofs.YtmbghcpcbdjfoaaGreatDoor
open Go.RowKit
structure yC (s:aA)(id:Int)(u:aL)(b:Bool):Prop where
 a:∀i x,cq s.l id=M i->s.l[i]? = M x->b=true∧u=x
theorem SA (s:aA)(S:Nat->Prop)(g:Nat)(id:Int)(i:Nat)(w:X)(h:cE w S g s)(ok:cO s)(hp:cq s.l id=M i)(B:i<s.l.length):
 Calls prog 29 #[Q (M ⟨g,0,U⟩),I J id] w fun e w'=>∃ao cap,e=Y (.tuple #[.agg #[I J s.l[i].b,I J s.l[i].c,V s.l[i].d,Z ao s.l[i].a.length cap,I J s.l[i].e],.bool true])∧ay w' ao cap s.l[i].a∧Below w.heap.size w w'∧∀a,ao=M a->s.l[i].a≠[]->w.heap.size<=a.block:=by
 have T:=(aq _ w).alloc (ak _) (K #[I J 0,I J 0,V ⟨#[]⟩,Z U 0 0,I J 0] 92);have W:=qA s S g id _ (h.a T) (by have:=ok.b;omega);rw[qe hp] at W;have HA:=aa h;have hk:=ok.a _ (dG B);have k1:=hk.a;have k2:=hk.b;have nN:=ok.b
 have hi':(i:Int)<s.l.length:=by omega
 obtain⟨u,hu⟩:∃u,s.l[i]=u:=⟨_,rfl⟩;rw[hu] at k1 k2 ⊢;go_enter func29,ntmps29;go_wp2_with fail;refine W.mono ?_;rintro e w1 ⟨rfl,hb⟩;have j:=ar T hb;obtain⟨gu,n⟩:=lG.d (HA.o.a j) B;obtain⟨q,h0,h1,h2,h3,h4,hf,r⟩:=lG.a (HA.o.a j) n B;rw[hu] at h0 h1 h2 h3 h4 r;obtain⟨cap,hcap,hc⟩:=n;have c:=(hb.block w.heap.size (by simp)).trans (bw w _);have C:=(bH.1 c).1;have t:=j;have HR:=aa c
 go_wp2_with fail;refine(CE u.b u.c u.e u.d q.a u.a.length q.b u.a w1 r rfl (by omega) (by omega)).mono ?_;rintro e d ⟨f,b,rfl,hO,x⟩;have D:=ar t x;have c:=(x.block w.heap.size C).trans HR.o;have z0:=am d _ 0 _ _ _ c;have z1:=am d _ 1 _ _ _ c;have z2:=am d _ 2 _ _ _ c;have z3:=am d _ 3 _ _ _ c;have z4:=am d _ 4 _ _ _ c
 have y0:=aD d _ 0 _ _ c;have y1:=aD d _ 1 _ _ c;have y2:=aD d _ 2 _ _ c;have y3:=aD d _ 3 _ _ c;have y4:=aD d _ 4 _ _ c
 simp at z0 z1 z2 z3 z4;have kF:=D;have G:=aa c;have HO:=aa hO
 go_wp2;have y:=((((kF.setCell (p:=⟨w.heap.size,0,U⟩) (ak _) (I J u.b)).setCell (p:=⟨w.heap.size,1,U⟩) (ak _) (I J u.c)).setCell (p:=⟨w.heap.size,2,U⟩) (ak _) (V u.d)).setCell (p:=⟨w.heap.size,3,U⟩) (ak _) (Z f u.a.length b)).setCell (p:=⟨w.heap.size,4,U⟩) (ak _) (I J u.e);have m:=aQ _ _ 4 _ _ (I J u.e) (aQ _ _ 3 _ _ (Z f u.a.length b) (aQ _ _ 2 _ _ (V u.d) (aQ _ _ 1 _ _ (I J u.c) (aQ _ _ 0 _ _ (I J u.b) G.o))));have H:∀a,f=M a->u.a≠[]->w.heap.size<=a.block:=fun a e L=>by
  have h9:=HO.o.r.mem L a e;have:=t.size;omega
 have N:=(HO.o.a (tS w.heap.size [I J u.b,I J u.c,V u.d,Z f u.a.length b,I J u.e] 0 d) (fun k e h=>by subst h;omega)).f;change ay (((((d.setCell ⟨w.heap.size,0,U⟩ (Value.int J u.b)).setCell ⟨w.heap.size,1,U⟩ (Value.int J u.c)).setCell ⟨w.heap.size,2,U⟩ (Value.string u.d)).setCell ⟨w.heap.size,3,U⟩ (Value.slice f u.a.length b)).setCell ⟨w.heap.size,4,U⟩ (Value.int J u.e)) _ _ _ at N;generalize (((((d.setCell ⟨w.heap.size,0,U⟩ (Value.int J u.b)).setCell ⟨w.heap.size,1,U⟩ (Value.int J u.c)).setCell ⟨w.heap.size,2,U⟩ (Value.string u.d)).setCell ⟨w.heap.size,3,U⟩ (Value.slice f u.a.length b)).setCell ⟨w.heap.size,4,U⟩ (Value.int J u.e))=z at y m N ⊢;have r0:=am z _ 0 _ _ _ m;have r1:=am z _ 1 _ _ _ m;have r2:=am z _ 2 _ _ _ m;have r3:=am z _ 3 _ _ _ m;have r4:=am z _ 4 _ _ _ m;refine aR (v:=.tuple #[.agg #[I J u.b,I J u.c,V u.d,Z f u.a.length b,I J u.e],.bool true]) (by simp[results,results29,go_sem,r0,r1,r2,r3,r4]) rfl ⟨f,b,rfl,N,y,H⟩
theorem FL (s:aA)(S:Nat->Prop)(g:Nat)(id:Int)(w:X)(h:cE w S g s)(ok:cO s):
 Calls prog 29 #[Q (M ⟨g,0,U⟩),I J id] w fun e w'=>∃u b ao cap,e=Y (.tuple #[.agg #[I J u.b,I J u.c,V u.d,Z ao u.a.length cap,I J u.e],.bool b])∧yC s id u b∧ay w' ao cap u.a∧Below w.heap.size w w'∧∀a,ao=M a->u.a≠[]->w.heap.size<=a.block:=by
 cases c:cq s.l id with
 | none=>exact(zv s S g id w h ok c).mono fun e w' ⟨f,k⟩=>⟨⟨0,0,⟨#[]⟩,[],0⟩,F,U,0,f,⟨fun i x q _=>by rw[c] at q;cases q⟩,ay.d _,k,fun a e=>by cases e⟩
 | some i =>
   have m:=lk c;exact(SA s S g id i w h ok c m).mono fun e w' ⟨ao,cap,f,k,n,o⟩=>⟨s.l[i],true,ao,cap,f,⟨fun j x q d=>by
    rw[c] at q;injection q with q;subst q;rw[gU m] at d;injection d with d;exact⟨rfl,d⟩⟩,k,n,o⟩
structure UO (w:X)(aaf:Nat->Prop)(p g gs:Nat)(W:X)(r:cV×oj)(e:Ending)(w':X):Prop where
 c:∃(ao uo:ai) (jQ an gT un:Nat),e=Y (.agg #[I J (r.2.a:Int),Z ao an jQ,Z uo un gT])∧an=r.2.c.length∧un=r.2.b.length∧ay w' uo gT r.2.b∧(r.2.b≠[]->∀a,uo=M a->W.heap.size<=a.block)
 b:jW w aaf p g gs r.1 w'
 d:al (fun k=>w.heap.size<=k∧¬aaf k) W w'
theorem ID.a {w:X}{l:List di}{ao:ai}{cap:Nat}(B:ID w l ao cap)(C:Is l)(i:Nat)(m:i<l.length):
 ∃(b o:Nat) (st:mP),ao=M ⟨b,o,U⟩∧yy w b (o+i*4) l[i] st∧∀(aaf:Nat->Prop) (p g gs:Nat) (wr:X),jW w aaf p g gs (jg dj (l.take i)) wr->Calls prog 25 #[Q (M ⟨p,0,U⟩),.agg #[I J l[i].c,I J l[i].a,I J l[i].n,Z st.a l[i].b.length st.b]] wr fun e w'=>UO w aaf p g gs wr (jg dj (l.take (i+1)),(dk (jg dj (l.take i)) l[i]).2) e w':=by
 obtain⟨b,o,st,rfl,r⟩:=B.b.a i m;refine⟨b,o,st,rfl,r,fun aaf p g gs wr h=>?_⟩;have s:=mF.d l i (by omega);have G:=Bk l i (by omega);have D:=Bi l i m;have H:=N6 l (i+1);have k1:=C.a;have k2:=C.b
 have L:=r.c.a h.a;have N:l[i].b≠[]->∀a,st.a=M a->a.block<w.heap.size:=fun c a e=>r.c.jD c a e;rw[vG dj l i m];obtain⟨⟨S,T,f⟩,j,t⟩:=h;have W:dr wr (fun k=>S k∧k<wr.heap.size) p g gs (jg dj (l.take i)):=T.a (fun k hk e=>⟨e,hk⟩);refine(FH B.c j (fun i e=>(f i e.1).1) W s (by omega) l[i] L (fun c a e q=>?_) rfl (by omega)).mono fun e w' d=>?_
 . have:=N c a e;have:=(f _ q.1).1;omega
 . have u:=d.b.b;obtain⟨ao,uo,jQ,an,gT,un,he,v,x,_,y,A2,_,_,z⟩:=d.d;refine⟨⟨ao,uo,jQ,an,gT,un,he,v,x,y,fun q a e=>(z q a e).1⟩,⟨⟨_,d.c,fun k q=>?_⟩,j.trans (d.b.below (fun i e=>(f i e.1).1) j.size),fun k q=>⟨(t k q).1,ml (t k q).2 u⟩⟩,d.b.e fun k q=>f k q.1⟩;rcases q with q | q
   . exact f k q.1
   . exact⟨ce j.size q,fun q2=>by have:=(t k q2).2;omega⟩
theorem ay.oI {W c:X}{b t:Nat}{f:Array Value}{o:Nat×Nat}{ao:ai}{cap:Nat}{l:ae}(h:ay W ao cap l)(p:W.heap[b]? = M (K f t o))(q:∀v∈f.toList,∀n,v≠I .u8 n)(r:al (fun k=>k=b) W c):ay c ao cap l:=by
 by_cases g:l=[]
 . subst g;exact ay.B c h
 . have i:=kH.2 g;obtain⟨j,s,rfl,_⟩:=h.j i;refine h.e r (fun a e=>?_);injection e with e;subst e;intro d;have d:j=b:=d;subst d;have m:=h.q 0 i;rw[ga,am W j _ _ _ _ p] at m;exact q _ (Array.mem_toList_iff.2 (Array.mem_of_getElem? m)) _ rfl
theorem UP {W:X}{b:Nat}(h:W.heap[b]? = M (K #[I J 0,I J 0,V ⟨#[]⟩,Z U 0 0,I J 0] 92 (0,0)))(a c d e f:Value):
 (W.cell? ⟨b,0,U⟩=M (I J 0)∧W.cell? ⟨b,1,U⟩=M (I J 0)∧W.cell? ⟨b,2,U⟩=M (V ⟨#[]⟩)∧W.cell? ⟨b,3,U⟩=M (Z U 0 0)∧W.cell? ⟨b,4,U⟩=M (I J 0))∧(∀j,W.frozen? ⟨b,j,U⟩=F) ∧
 Hid ((((((W.setCell ⟨b,0,U⟩ a).setCell ⟨b,1,U⟩ c).setCell ⟨b,2,U⟩ d).setCell ⟨b,3,U⟩ e).setCell ⟨b,4,U⟩ f).heap[b]? = M (K #[a,c,d,e,f] 92 (0,0))∧al (fun k=>k=b) W (((((W.setCell ⟨b,0,U⟩ a).setCell ⟨b,1,U⟩ c).setCell ⟨b,2,U⟩ d).setCell ⟨b,3,U⟩ e).setCell ⟨b,4,U⟩ f)) :=
 ⟨⟨am W _ 0 _ _ _ h, am W _ 1 _ _ _ h, am W _ 2 _ _ _ h, am W _ 3 _ _ _ h, am W _ 4 _ _ _ h⟩, fun j => aD W _ j _ _ h,
   aQ _ _ 4 _ _ f (aQ _ _ 3 _ _ e (aQ _ _ 2 _ _ d (aQ _ _ 1 _ _ c (aQ _ _ 0 _ _ a h)))),gX b [a,c,d,e,f] 0 W⟩
structure sS (w:X)(p g gs:Nat)(P:cV)(so:ai)(afN m:Nat)(wr:X):Prop where
 b:∃aaf,jW w aaf p g gs P wr∧qJ so afN P.a wr aaf
 c:P.a.length=m
structure Cj (w:X)(p g gs:Nat)(P:cV)(so:ai)(sc:Nat)(id:Int)(ub:Nat)(u:aL)(b:Bool)(uo:ai)(gT:Nat)(wr:X):Prop where
 c:∃aaf Q0 n0,jW w aaf p g gs P wr∧qJ so sc P.a wr Q0∧(∀k,Q0 k->aaf k∧k<n0)∧(aaf ub∧n0<=ub)∧∀a,uo=M a->u.a≠[]->aaf a.block∧n0<=a.block
 e:yC P.s.h id u b
 f:wr.heap[ub]? = M (K #[I J u.b,I J u.c,V u.d,Z uo u.a.length gT,I J u.e] 92 (0,0))
 d:ay wr uo gT u.a
theorem xo {W:X}{b:Nat}{o:Obj}(h:W.heap[b]? = M o):b<W.heap.size:=(bH.1 h).1
theorem sS.a {w wr w':X}{aaf:Nat->Prop}{p g gs:Nat}{P:cV}{tr:List Int}{c f:ai}{l b m:Nat}{i:Int}(s:jW w aaf p g gs P wr)(t:qJ c l tr wr aaf)(o:P.a=tr++[i])(u:tr.length=m)(r:aG w' 0 3 1 f b (m+1) (eE tr++[I J i]))(v:wr.grownBy w' (au c))(n:∀j,au f=M j->au c=M j∨wr.heap.size<=j):sS w p g gs P f b (m+1) w':=by
 subst u;have d:∀k,au c=M k->aaf k:=fun k e=>by
  cases c with
  | none=>cases e
  | some a=>injection e with e;rw[<-e];exact t.2 a rfl
 have x:=s.d (al.q (S:=aaf) v d);refine⟨⟨_,x,?_,fun a e=>⟨?_,(r.d a e).2⟩⟩,by rw[o];simp⟩
 . rw[o];show aG w' 0 3 1 f b (tr++[i]).length (eE (tr++[i]));have y:(tr++[i]).length=tr.length+1:=by simp
   have z:eE (tr++[i])=eE tr++[I J i]:=by simp[eE]
   rw[y,z];exact r
 . rcases n a.block (by rw[e];rfl) with q | q
   . exact Or.inl (d _ q)
   . exact Or.inr q
theorem MC (w:X)(hP:fu w)(l:List di)(ao:ai)(cap n:Nat)(hl:px w ao cap l)(hn:l.length=n)(hz:∀q∈l,q.b.length<=140737488355328)(hN:n<=140737488355328):
 Calls prog 5 #[Z ao n cap] w fun e w'=>e=Y (.bool true)∧Below w.heap.size w w':=by
 subst hn;have hcap:=hl.d;have HX:ID w l ao cap:=⟨hl,hP⟩;have HBg:=LU w hP;have HG:Hid (∀W,Below w.heap.size w W->Calls prog 22 #[Z ao l.length cap] W fun e w'=>IB W l e w'):=fun W hW=>LO l ao cap l.length W (hl.f hW) rfl hz hN;clear hl hP hz hN;go_enter func5,ntmps5;go_wp2_with fail;refine HBg.mono ?_;rintro e w1 ⟨rfl,hb1⟩;have HG1:=HG.o w1 hb1;have HB1:=aa hb1;clear HG hb1 HBg;go_wp2_with fail;refine HG1.mono ?_;rintro e w1' ⟨b,rfl,hsm,hw⟩;rw[hw];clear hw w1' HG1;cases b with
 | true =>
   go_wp2;go_ret;exact⟨rfl,HB1.o⟩
 | false =>
   have HS:=aa (hsm rfl);clear hsm;go_wp2_with fail;refine(ET w1).mono ?_;rintro e w2 ⟨p,g,gs,rfl,hP2,hb2⟩;have HL2:Hid (sS w p g gs dj U 0 0 w2):=⟨⟨_,jW.j HB1.o hP2 hb2,aG.f _ _ _ _,fun a e=>by cases e⟩,rfl⟩;clear hP2 hb2;go_wp2;go_loopw [4,5] (fun vs vi wr=>∃(i:Nat) (z:ai) (sc m:Nat),i<=l.length∧vi=I J i∧vs=Z z m sc∧sS w p g gs (jg dj (l.take i)) z sc m wr) (fun _ vi _=>l.length-(intOf vi).toNat)
   case atStart=>exact⟨0,U,0,0,ax _,rfl,rfl,by rw[List.take_zero];exact HL2.o⟩
   case round =>
    clear HL2;obtain⟨i,z,sc,m,hi,rfl,rfl,hK⟩:=hrel;have am9:=HS.o.a;obtain⟨⟨aaf,hL,hI⟩,hm⟩:=hK;have htr:=Bk l i (by omega);rw[hm] at htr;by_cases hlt:i<l.length
    . have hlt':(i:Int)<l.length:=by omega
      have hok:=mF.d l i (by omega);have hT:=re.d l i (by omega);have hon:=NZ hok hT l[i];have hrt:=vG dj l i hlt;obtain⟨bb,oo,st,rfl,hA,hDo⟩:=HX.a HS.o i hlt;have HDo:=aa (fun Q' W h=>hDo Q' p g gs W h);clear hDo;have HPx:Hid (∀W,Below w.heap.size w W->W.cell? ⟨bb,oo+i*4,U⟩=M (I J l[i].c)∧W.cell? ⟨bb,oo+i*4+1,U⟩=M (I J l[i].a)∧W.cell? ⟨bb,oo+i*4+2,U⟩=M (I J l[i].n)∧W.cell? ⟨bb,oo+i*4+3,U⟩=M (Z st.a l[i].b.length st.b)):=fun W hW=>by
       have:=hA.j hW (ak _);exact⟨this.d,this.e,this.f,this.a⟩
      obtain⟨c0,c1,c2,c3⟩:=HPx.o wr hL.a;obtain⟨B,hSt⟩:=hL.y;obtain⟨ks,kl,kao,kca,P1,hst⟩:=hSt;obtain⟨⟨y2,_⟩,_⟩:=cX hst.a;obtain⟨y0,y1⟩:=hL.r;have t:=(aq _ wr).alloc (ak _) (K #[I J 0,I J 0,V ⟨#[]⟩,Z U 0 0,I J 0] 92);have hb0:Below wr.heap.size wr (wr.alloc (K #[I J 0,I J 0,V ⟨#[]⟩,Z U 0 0,I J 0] 92)).drew:=ar t (bA _ _);have HGu:=FL _ P1 ks l[i].n (wr.alloc (K #[I J 0,I J 0,V ⟨#[]⟩,Z U 0 0,I J 0] 92)).drew (hst.e.a hb0) hok.s.h;have hr0:=bw wr (K #[I J 0,I J 0,V ⟨#[]⟩,Z U 0 0,I J 0] 92);have hz0:wr.heap.size<(wr.alloc (K #[I J 0,I J 0,V ⟨#[]⟩,Z U 0 0,I J 0] 92)).drew.heap.size:=by show _<(wr.alloc (K #[I J 0,I J 0,V ⟨#[]⟩,Z U 0 0,I J 0] 92)).heap.size;rw[ch];omega
      have HFw:Hid (∀u b f r y,ay y f r u.a->yC (jg dj (l.take i)).s.h l[i].n u b->Below (wr.alloc (K #[I J 0,I J 0,V ⟨#[]⟩,Z U 0 0,I J 0] 92)).drew.heap.size (wr.alloc (K #[I J 0,I J 0,V ⟨#[]⟩,Z U 0 0,I J 0] 92)).drew y->(∀a,f=M a->u.a≠[]->(wr.alloc (K #[I J 0,I J 0,V ⟨#[]⟩,Z U 0 0,I J 0] 92)).drew.heap.size<=a.block)->((y.cell? ⟨wr.heap.size,0,U⟩=M (I J 0)∧y.cell? ⟨wr.heap.size,1,U⟩=M (I J 0)∧y.cell? ⟨wr.heap.size,2,U⟩=M (V ⟨#[]⟩)∧y.cell? ⟨wr.heap.size,3,U⟩=M (Z U 0 0)∧y.cell? ⟨wr.heap.size,4,U⟩=M (I J 0))∧(∀j,y.frozen? ⟨wr.heap.size,j,U⟩=F)∧Hid (∀wf,wf=(((((y.setCell ⟨wr.heap.size,0,U⟩ (I J u.b)).setCell ⟨wr.heap.size,1,U⟩ (I J u.c)).setCell ⟨wr.heap.size,2,U⟩ (V u.d)).setCell ⟨wr.heap.size,3,U⟩ (Z f u.a.length r)).setCell ⟨wr.heap.size,4,U⟩ (I J u.e))->Cj w p g gs (jg dj (l.take i)) z sc l[i].n wr.heap.size u b f r wf))):=fun u b f r y hB H D L=>by
       have hr3:=(D.block _ hz0).trans hr0;obtain⟨k1,k2,k3⟩:=UP hr3 (I J u.b) (I J u.c) (V u.d) (Z f u.a.length r) (I J u.e);refine⟨k1,k2,fun wf e=>?_⟩;obtain⟨k4,k5⟩:=k3.out;rw[<-e] at k4 k5;have wG:=hB.oI hr3 (by intro v hv n;simp at hv;rcases hv with rfl | rfl | rfl | rfl | rfl <;> simp) k5;have hb4:=ar hb0 D;have T:Below wr.heap.size wr wf:=hb4.trans (k5.below (B:=wr.heap.size) (fun k e=>by omega) hb4.size);have hO:=hL.d (al.d (S:=aaf) T);have hqz:=hL.b;have hz5:=T.size;refine⟨⟨_,aaf,wr.heap.size,hO,(qJ.a z sc _).b hI (al.d (S:=fun _=>False) T) (fun _ _ e=>e),fun k q=>⟨⟨Or.inl q,by have:=(hqz k q).2;omega⟩,(hqz k q).2⟩,⟨⟨Or.inr (ak _),xo k4⟩,ak _⟩,fun a e c=>?_⟩,H,k4,wG⟩;have h8:=L a e c;have h9:=wG.jD c a e;exact⟨⟨Or.inr (by omega),h9⟩,by omega⟩
      have ec:∀(a:Addr) (v:Value),wr.cell? a=M v->(wr.alloc (K #[I J 0,I J 0,V ⟨#[]⟩,Z U 0 0,I J 0] 92)).cell? a=M v:=fun a v e=>(t.cell (bI wr _ e)).trans e;have e0:=ec _ _ c2;have e1:=ec _ _ y0;have e2:=ec _ _ y1;have e3:=ec _ _ y2;have Lm:=FL _ P1 ks l[i].n wr.drew (hst.e.a (bA _ _)) hok.s.h;have HFv:Hid (∀u b f r y,ay y f r u.a->yC (jg dj (l.take i)).s.h l[i].n u b->Below wr.drew.heap.size wr.drew y->(∀a,f=M a->u.a≠[]->wr.drew.heap.size<=a.block)->Hid (∀wf,wf=y.alloc (K #[I J u.b,I J u.c,V u.d,Z f u.a.length r,I J u.e] 92)->Cj w p g gs (jg dj (l.take i)) z sc l[i].n y.heap.size u b f r wf)):=fun u b f r y hB H D L wf e=>by
       have hb4:Below wr.heap.size wr y:=ar (bA _ _) D;have t:=(aq _ y).alloc (ak _) (K #[I J u.b,I J u.c,V u.d,Z f u.a.length r,I J u.e] 92);have k4:=bw y (K #[I J u.b,I J u.c,V u.d,Z f u.a.length r,I J u.e] 92);rw[<-e] at t k4;have T:Below wr.heap.size wr wf:=ar hb4 t;have wG:=hB.a t;have hO:=hL.d (al.d (S:=aaf) T);have hqz:=hL.b;have hz4:=hb4.size;refine⟨⟨_,aaf,wr.heap.size,hO,(qJ.a z sc _).b hI (al.d (S:=fun _=>False) T) (fun _ _ e=>e),fun k q=>⟨⟨Or.inl q,by have:=(hqz k q).2;have:=T.size;omega⟩,(hqz k q).2⟩,⟨⟨Or.inr hz4,xo k4⟩,hz4⟩,fun a e c=>?_⟩,H,k4,wG⟩;have h8:wr.heap.size<=a.block:=L a e c;have h9:=wG.jD c a e;exact⟨⟨Or.inr h8,h9⟩,h8⟩
      have HOn:=aa hon;have ZV:=aa hrt;have vX:=aa hok;have HM:=aa hm;have Zx:=aa hL.a
      clear hA hT hon hrt hok hst hm hL hI t hb0 hr0 hz0 ec;obtain⟨P2,hP2⟩:∃P2,jg dj (l.take (i+1))=P2:=⟨_,rfl⟩;rw[hP2] at ZV;simp only[hP2] at HDo;have tQ:=aa hP2;clear hP2;generalize jg dj (l.take i)=P at *;generalize l[i]=x at *;go_upto_region 10 with fail
      go_cut [6,7] (fun v6 v7 wd=>∃(ub:Nat) (u:aL) (b:Bool) (f:ai) (r:Nat),v6=Q (M ⟨ub,0,U⟩)∧v7=.bool b∧Cj w p g gs P z sc x.n ub u b f r wd)
      case first =>
       focus
        go_region_law (first | (go_simp;go_at_call 29;refine Lm.mono ?_;rintro e y ⟨u,b,f,r,rfl,H,hB,D,L⟩;have HO:=HFv.o u b f r y hB H D L;clear H hB D L) | (go_simp;go_at_call 29;refine HGu.mono ?_;rintro e y ⟨u,b,f,r,rfl,H,hB,D,L⟩;obtain⟨⟨z0,z1,z2,z3,z4⟩,fz,HO⟩:=HFw.o u b f r y hB H D L;clear H hB D L))
        all_goals
         go_wp2;go_meet;exact⟨_,u,b,f,r,rfl,rfl,HO.o _ rfl⟩
      case rest =>
       focus
        obtain⟨ub,u,b,f,r,rfl,rfl,hO⟩:=hcut;obtain⟨⟨Q1,Q0,n0,hL,hI,hQ0,hQu,hQb⟩,hgu,hrow,hby⟩:=hO;have HD:=HDo.o Q1 wc hL;obtain⟨c0,c1,c2,c3⟩:=HPx.o wc hL.a;have HI:=aa hI;have HQ0:=aa hQ0;have HQu:=aa hQu;have HQb:=aa hQb;have HGi:=aa hgu;have HRw:=aa hrow;have HBy:=aa hby;have HQl:=aa hL.b
        clear HDo HFw HGu HFv Lm hL hI hQ0 hQu hQb hgu hrow hby y0 y1 y2 e0 e1 e2 e3;obtain⟨o,ho⟩:∃o,(dk P x).2=o:=⟨_,rfl⟩;rw[ho] at HD;have Ho:=aa ho;clear ho;generalize x.b.length=nb at *;go_wp2_with fail;refine HD.mono ?_;intro e w6 hd;obtain⟨⟨Ua,G,a6,n6,u6,m6,rfl,hn6,hm6,hU6,hloc⟩,hat,yX⟩:=hd;generalize hcd:o.a=cd at *;have hz6:=yX.b;have XT:=(aq _ w6).alloc (ak _) (K #[I J (cd:Int),Z Ua n6 a6,Z G m6 u6] 70);have hL7:=hat.e XT;have hI7:qJ z sc P.a (w6.alloc (K #[I J (cd:Int),Z Ua n6 a6,Z G m6 u6] 70)) Q0:=(qJ.a z sc _).b ((qJ.a z sc _).b HI.o yX (fun k q e=>e.2 (HQ0.o k q).1)) (al.d (S:=fun _=>False) XT) (fun _ _ e=>e);have VI:=(XT.block _ (ml (xo HRw.o) hz6)).trans (yX.j HRw.o (fun e=>e.2 HQu.o.1));have ajF:ay (w6.alloc (K #[I J (cd:Int),Z Ua n6 a6,Z G m6 u6] 70)) f r u.a:=by
         by_cases c:u.a=[]
         . have:=HBy.o;rw[c] at this ⊢;exact ay.B _ this
         . exact(HBy.o.e yX (fun a e e2=>e2.2 (HQb.o a e c).1)).a XT
        have TB:=hU6.a XT;have hr7:(w6.alloc (K #[I J (cd:Int),Z Ua n6 a6,Z G m6 u6] 70)).heap[w6.heap.size]? = M (rf (I J (cd:Int)) (Z Ua n6 a6) (Z G m6 u6)):=bw w6 (K #[I J (cd:Int),Z Ua n6 a6,Z G m6 u6] 70);obtain⟨c0,c1,c2,c3⟩:=HPx.o _ hL7.a;obtain⟨d0,d1,d2⟩:=xd hr7;have hq6:n0<=wc.heap.size:=ce HQu.o.2 (Nat.le_of_lt (xo HRw.o));have HM6:=aa hm6;have HCd:=aa hcd;have HL7:=aa hL7;have HI7:=aa hI7;have Lj:=aa VI;have Ht:=aa ajF;have HU7:=aa TB;have HO7:=aa hr7;have sD:=aa hloc
        have HN0:Hid (n0<=w6.heap.size):=by unfold Hid;omega
        have VH:Hid (n0<=wc.heap.size):=hq6;clear hn6 hm6 hU6 hloc hat yX hcd XT hL7 hI7 VI ajF TB hr7 HD HI HRw HBy hz6 hq6;go_upto_region 12 with fail
        generalize (w6.alloc (K #[I J (cd:Int),Z Ua n6 a6,Z G m6 u6] 70))=C at *;rcases HOn.o with ⟨hup,Xw⟩ | ⟨i',u',OU⟩
        . as_aux_lemma =>
           have hm0:m6=0:=by rw[HM6.o,<-Ho.o,hup];rfl
           subst hm0
           have HFin:Hid (sS w p g gs P2 z sc m C):=⟨⟨Q1,HL7.o,by
            have e:P2.a=P.a:=by rw[ZV.o];exact Xw
            rw[e];exact(qJ.a z sc _).c HI7.o (fun k _ q=>(HQ0.o k q).1)⟩,by rw[ZV.o,Xw];exact HM.o⟩
           clear hup Xw d0 d1 HM6 HL7 HI7 Lj Ht HU7 HO7 sD HOn
           go_wp2
           go_roundw
           case rel=>exact⟨i+1,z,sc,m,by omega,by go_num,rfl,by rw[tQ.o];exact HFin.o⟩
           case measure=>simp[intOf];omega
        . focus
           have hk3:=OU.f;have anb:cd=0:=by rw[<-HCd.o,<-Ho.o];exact OU.e
           obtain⟨hb,hu⟩:=HGi.o.a i' u' OU.k OU.d;subst hb;subst hu;subst anb;rw[hk3] at c0;have hone:=NO OU.j (by have:=OU.b;have:=OU.a;omega) (by have:=OU.h;omega);have hup:=OU.o;rw[Ho.o] at hup;have hm6:=HM6.o;rw[hup] at hm6 HU7 sD;have tm:((m6:Int)==0)=F:=aO.2 (by have:=hone.1;omega);obtain⟨v0,v1,v2,v3,v4⟩:C.cell? ⟨ub,0,U⟩=M (I J u.b)∧C.cell? ⟨ub,1,U⟩=M (I J (u.a.length:Int))∧C.cell? ⟨ub,2,U⟩=M (V u.d)∧C.cell? ⟨ub,3,U⟩=M (Z f u.a.length r)∧C.cell? ⟨ub,4,U⟩=M (I J 0):=by
            have hr:=Lj.o;refine⟨am C _ 0 _ _ _ hr,?_,am C _ 2 _ _ _ hr,am C _ 3 _ _ _ hr,?_⟩
            . rw[<-OU.m];exact am C _ 1 _ _ _ hr
            . rw[<-OU.l];exact am C _ 4 _ _ _ hr
           have tn:((u.a.length:Int) != (u.a.length:Int))=F:=by simp
           have Xw:=OU.n;have hnew:=OU.c;have hlo:=OU.g;have hhi:=OU.a;have hid:=OU.b
           obtain⟨N,hN⟩:∃N:Nat,x.n=N:=⟨x.n.toNat,by omega⟩;have hml:=HM.o;have HI8:Hid (∀q,qJ z sc P.a (C.drewN q) Q0∧((C.drewN q).cell? ⟨bb,oo+i*4+2,U⟩=M (I J x.n))):=fun q=>⟨(qJ.a z sc _).b HI7.o (al.d (S:=fun _=>False) (lF C q)) (fun _ _ e=>e),c2⟩;have VZ:Hid (∀k (hk:k<P.a.length),(P.a[k]==x.n)=F):=fun k hk=>aO.2 (fun e=>hnew (by rw[<-e];exact dG hk));have afL:=aa Xw;have aa6:=aa hone;have HId:=aa hid;have HMl:=aa hml;have ajH:=aa hm6;have O5:=aa hN
           have asD:0<m6:=by have:=hone.1;omega
           have asE:m6<=8000:=by have:=hone.2.1;omega
           clear hk3 hup hm6 hone Xw hnew hid hml HOn OU hN HM6;go_wp2;go_loopw [9] (fun vk wq=>∃k q:Nat,k<=m∧vk=I J k∧wq=C.drewN q) (fun vk _=>m-(intOf vk).toNat)
           case atStart=>exact⟨0,0,ax _,rfl,rfl⟩
           case round =>
            obtain⟨k,q,hk,rfl,rfl⟩:=hrel;by_cases hkm:k<m
            . have asF:(k:Int)<m:=by omega
              have hkt:k<P.a.length:=by rw[HMl.o];exact hkm
              have hq1:=HI7.o;have hcp:=hq1.1.a.1;rw[HMl.o] at hcp;obtain⟨sb,sof,hso,hcs⟩:=hq1.1.a.e (by unfold eE;rw[ij];omega);have tk:=VZ.o k hkt;have hc:=hcs k (I J P.a[k]) (by unfold eE;rw[List.getElem?_map,gU hkt];rfl);generalize P.a[k]=tv at *;clear hq1 hcs v0 v1 v2 v3 v4 c0 c1 c3 d0 d1 d2 hkt;subst hso;go_wp2;go_quiet (fail)
              go_wp2;go_roundw
              case rel=>exact⟨k+1,q+nq,by omega,by go_num,by simp⟩
              case measure=>simp[intOf];omega
            . as_aux_lemma =>
               obtain rfl:k=m:=by omega
               obtain⟨hI8,c28⟩:=HI8.o q
               have hLq:=HL7.o.e (lF C q)
               have t:=(aq _ (C.drewN q)).alloc (ak _) (K #[I J x.n] 3)
               have hbq:=ar (lF C q) t
               have hIa:aG ((C.drewN q).alloc (K #[I J x.n] 3)) 0 3 1 z sc k (eE P.a):=by
                have:=((qJ.a z sc _).b hI8 (al.d (S:=fun _=>False) t) (fun _ _ e=>e)).1;rw[HMl.o] at this;exact this
               have HIa:=aa hIa
               have hQs:∀j,au z=M j->Q0 j:=fun j e=>by
                cases z with
                | none=>cases e
                | some a=>injection e with e;rw[<-e];exact hI8.2 a rfl
               obtain⟨i0,hi0,hz0,hz1,hz2⟩:=info_parts wT
               have Hi:=aa hi0;have kT:=aa hz0;have kL:=aa hz1;have kU:=aa hz2
               have Qn:Hid (∀Sc sc' w9,aG w9 0 3 1 Sc sc' (k+1) (eE P.a++[I J x.n])->((C.drewN q).alloc (K #[I J x.n] 3)).grownBy w9 (au z)->(∀j,au Sc=M j->au z=M j∨((C.drewN q).alloc (K #[I J x.n] 3)).heap.size<=j)->sS w p g gs P2 Sc sc' (k+1) w9∧(w9.cell? ⟨ub,3,U⟩=M (Z f u.a.length r)∧w9.cell? ⟨w6.heap.size,2,U⟩=M (Z G m6 u6))∧ay w9 G u6 (iU u)∧ay w9 f r u.a∧Below w.heap.size w w9):=fun Sc sc' w9 g1 g2 g3=>by
                have zL:al (fun j=>Q0 j) C w9:=(al.d (S:=fun j=>Q0 j) hbq).a (al.q g2 (fun j e=>hQs j e)) (fun _ e _=>e);have h5:=sS.a (P:=P2) (tr:=P.a) (HL7.o.e hbq) ⟨by rw[HMl.o];exact HIa.o,fun a e=>(HQ0.o _ (hI8.2 a e)).1⟩ (by rw[ZV.o];exact afL.o) HMl.o g1 g2 g3;have hu9:=zL.j Lj.o (fun e=>by have:=(HQ0.o _ e).2;have:=HQu.o.2;omega);have ho9:=zL.j HO7.o (fun e=>by have:=(HQ0.o _ e).2;have:=HN0.o;omega);have hb9:=HB1.o;refine⟨h5,⟨am w9 _ 3 _ _ _ hu9,am w9 _ 2 _ _ _ ho9⟩,?_,?_,?_⟩
                . refine HU7.o.e zL (fun a e e2=>?_);have h1:=sD.o (fun e3=>by have:=aa6.o.1;rw[e3] at this;exact absurd this (Nat.lt_irrefl _)) a e;have h2:=(HQ0.o _ e2).2;have h3:=VH.o;omega
                . by_cases c:u.a=[]
                  . have:=Ht.o;rw[c] at this ⊢;exact ay.B _ this
                  . exact Ht.o.e zL (fun a e e2=>by have:=(HQb.o a e c).2;have:=(HQ0.o _ e2).2;omega)
                . exact HL7.o.a.trans (zL.below (B:=w.heap.size) (fun j e=>(HQl.o j (HQ0.o j e).1).1) HL7.o.a.size)
               clear hI8 hLq t hbq hIa hQs hi0 hz0 hz1 hz2
               go_wp2_with (at_builtin;go_loud (refine fE rfl (.tmp 97) (.tmp 103) 55 rfl 0 3 i0 (I J 0) 1 8 underlying55 Hi.o kT.o kL.o kU.o rfl (by decide) rfl HIa.o rfl (bx.d _ _ 1 _ _) rfl (fun u hu=>by simp at hu;rw[hu];rfl) (by omega) (by omega) (ax _) ?_;intro Sc sc' w9 jY hG9 kC;have hA9:=Qn.o Sc sc' w9 jY hG9 (fun j e=>by rcases kC with q | q;exact Or.inl (q▸e);exact Or.inr (by rw[q] at e;injection e with e;omega));have Vu:=aa hA9;obtain⟨b3,b2⟩:=hA9.2.1;clear jY hG9 kC hA9))
               have HRq:=Ng (iU u) G u6 w9 Vu.o.2.2.1 (by rw[<-ajH.o];omega) (fun q=>(NX aa6.o.2.2 q).elim)
               rw[<-ajH.o,aa6.o.2.2] at HRq
               obtain⟨ne,c⟩:∃ne,(aS.head (vJ (lb u) u.a)::eu u.a++[aS.fin]).length=ne:=⟨_,rfl⟩
               simp only[c] at HRq
               have XE:=aa c
               clear c
               have hBu:=Vu.o.2.2.2.1
               have HBu:=aa hBu
               obtain⟨d,hd⟩:∃d:ag,d=⟨(ba 8 N).toArray⟩:=⟨_,rfl⟩
               have hdz:d.size<=9:=by
                rw[hd];show(ba 8 N).toArray.size<=9;rw[cN];exact(jq 8 N).1
               have hz1:¬(9223372036854775807<6+d.size):=by omega
               have htt:=NI (u:=u) (n:=N) (by rw[HId.o,O5.o])
               rw[<-hd] at htt
               have t5:(((⟨#[47,116,97,107,101,47]⟩:ag)++d).toList != ((⟨#[47,116,97,107,101,47]⟩:ag)++d).toList)=F:=by simp
               have HNm:Hid (∀W,Calls prog 30 #[I J x.n] W fun e w'=>e=Y (V d)∧∃m,w'=W.drewN m):=fun W=>by
                have:=UG 8 N W (by have:=O5.o;show N<1000000000;omega) (by have:=O5.o;omega) (by decide);rw[O5.o,hd];exact this
               have HTt:=aa htt
               have c29:=(HPx.o w9 Vu.o.2.2.2.2).2.2.1
               clear hBu hd htt Qn HIa c28
               go_wp2_with fail;refine HRq.mono ?_
               rintro e GX ⟨a2,e2,rfl,hE,Xx⟩
               have HE:=aa hE
               have asJ:=aa (ar Vu.o.2.2.2.2 Xx)
               have b30:=(Xx.cell (bI w9 _ b3)).trans b3
               have c30:=(Xx.cell (bI w9 _ c29)).trans c29
               have ajI:=aa (HBu.o.a Xx)
               have jY:=Vu.o.1
               have HFin:Hid (∀W,Below GX.heap.size GX W->sS w p g gs P2 Sc sc' (k+1) W):=fun W hW=>by
                obtain⟨⟨Q',h1,h2⟩,h3⟩:=jY;have hb:=ar Xx hW;exact⟨⟨Q',h1.e hb,(qJ.a Sc sc' _).b h2 (al.d (S:=fun _=>False) hb) (fun _ _ e=>e)⟩,h3⟩
               clear hE Xx b2 b3 c29 jY HRq HBu
               by_cases hbn:u.a=[]
               . as_aux_lemma =>
                  rw[hbn] at HE b30
                  obtain rfl:ne=2:=by rw[<-XE.o,hbn];rfl
                  obtain⟨eb,eo,rfl,hev⟩:=HE.o.a (by simp[eu])
                  obtain⟨s0,h0⟩:=hev 0 (by simp[eu])
                  obtain⟨s1,h1⟩:=hev 1 (by simp[eu])
                  have hcp:=HE.o.1
                  have f0:GX.cell? ⟨eb,eo,U⟩=M (I J 1):=h0.a 0 _ rfl
                  have f1:GX.cell? ⟨eb,eo+2,U⟩=M (V ((⟨#[47,116,97,107,101,47]⟩:ag)++d)):=by
                   have:=h0.a 2 _ rfl;rw[show((⟨#[47,116,97,107,101,47]⟩:ag)++d)=_ from HTt.o.symm];rw[hbn];exact this
                  have f2:GX.cell? ⟨eb,eo+12,U⟩=M (I J 3):=h1.a 0 _ rfl
                  have hcp2:2<=e2:=hcp
                  clear hev h0 h1 hcp HE hbn HTt
                  go_upto_region 27 with fail
                  go_quiet ((go_at_call 30;exact Calls.quiet_of (HNm.o _)))
                  go_wp2
                  go_roundw
                  case rel=>exact⟨i+1,Sc,sc',k+1,by omega,by go_num,rfl,by rw[tQ.o];exact HFin.o _ (lF _ _)⟩
                  case measure=>simp[intOf];omega
               . as_aux_lemma =>
                  obtain rfl:ne=3:=by rw[<-XE.o];unfold eu;rw[if_neg hbn];rfl
                  have hse:eu u.a=[.body u.a]:=if_neg hbn
                  rw[hse] at HE
                  obtain⟨eb,eo,rfl,hev⟩:=HE.o.a (by simp)
                  obtain⟨s0,h0⟩:=hev 0 (by simp)
                  obtain⟨s1,h1⟩:=hev 1 (by simp)
                  obtain⟨s2,h2⟩:=hev 2 (by simp)
                  have hcp:=HE.o.1
                  have f0:GX.cell? ⟨eb,eo,U⟩=M (I J 1):=h0.a 0 _ rfl
                  have f1:GX.cell? ⟨eb,eo+2,U⟩=M (V ((⟨#[47,116,97,107,101,47]⟩:ag)++d)):=by
                   have:=h0.a 2 _ rfl;rw[show((⟨#[47,116,97,107,101,47]⟩:ag)++d)=_ from HTt.o.symm];exact this
                  have f2:GX.cell? ⟨eb,eo+24,U⟩=M (I J 3):=h2.a 0 _ rfl
                  have f3:GX.cell? ⟨eb,eo+12+6,U⟩=M (Z s1.a u.a.length s1.b):=h1.a 6 _ rfl
                  have hB1:ay GX s1.a s1.b u.a:=h1.c
                  have HSb:Hid (∀q,Calls prog 15 #[Z s1.a u.a.length s1.b,Z f u.a.length r] (GX.drewN q) fun e w'=>e=Y (.bool true)∧w'=GX.drewN q):=fun q=>by
                   have:=LP (GX.drewN q) s1.a f s1.b r u.a.length u.a.length u.a u.a rfl rfl (hB1.a (lF _ _)) (ajI.o.a (lF _ _));rw[aV rfl] at this;exact this
                  have hcp2:3<=e2:=hcp
                  have hbp:=kH.2 hbn
                  have tb:decide ((u.a.length:Int) > 0)=true:=aV (by omega)
                  clear hev h0 h1 h2 hcp HE hbn HTt hse hB1
                  generalize u.a.length=bn at *
                  go_upto_region 25 with fail
                  go_quiet ((go_at_call 15;exact Calls.quiet_of_same (HSb.o _)))
                  have abf:=aa (lF GX nq)
                  replace f0:=(abf.o.cell (bI _ _ f0)).trans f0
                  replace f1:=(abf.o.cell (bI _ _ f1)).trans f1
                  replace f2:=(abf.o.cell (bI _ _ f2)).trans f2
                  replace c30:=(abf.o.cell (bI _ _ c30)).trans c30
                  generalize GX.drewN nq=w11 at *
                  go_upto_region 27 with fail
                  go_quiet ((go_at_call 30;exact Calls.quiet_of (HNm.o _)))
                  go_wp2
                  go_roundw
                  case rel=>exact⟨i+1,Sc,sc',k+1,by omega,by go_num,rfl,by rw[tQ.o];exact HFin.o _ (ar abf.o (lF _ _))⟩
                  case measure=>simp[intOf];omega
    . obtain rfl:i=l.length:=by omega
      have zS:=hL.q (by omega);rw[hm] at zS;have Zx:=aa hL.a;clear hL hI hm;go_wp2_with fail;refine zS.mono ?_;rintro e w5 ⟨ta,tc,rfl,T⟩;have oP:=aa (ar Zx.o T);go_wp2;go_ret;exact⟨by simp,oP.o⟩
