import Derived.Test.YtodmelffkfbalaaGreatDoorPk25
import Derived.Deep.RegionLaw
import Derived.Deep.AppendLies
open Go.Value renaming int->I,string->V,slice->Z,pointer->Q
open Go.IntKind renaming i64->J
open Go.Obj renaming cells->K
open Go.Ending renaming returned->Y
open Option renaming none->U,some->M
open Or renaming inl->A,inr->R
open Go renaming World->X
set_option maxHeartbeats 4000000
set_option maxRecDepth 100000
open Go.Proofs.Tryz
namespace Go.Proofs.YtodmelffkfbalaaGreatDoor
open Go.RowKit
theorem E4:(prog.info? 98).map (fun i=>(i.zero,i.size,i.bytes))=M (M (.agg #[I J 0,V ⟨#[]⟩,V ⟨#[]⟩,I J 0,Z U 0 0,I J 0,Z U 0 0,V ⟨#[]⟩,V ⟨#[]⟩,V ⟨#[]⟩,Z U 0 0,I J 0]),12,184):=by kernel_rfl
theorem R8 {c:X}{S:Nat->Prop}{g:Nat}{x y:Value}{gL:ag}{b n:Nat}{es:List aA}(f:c.heap[g]? = M (K #[x,y] 354 (0,0)))(i:S g)(ha:ju c (fun k=>S k∧k≠g) 98 gL b es)(j:n=es.length):
 fW ((c.setCell ⟨g,0,U⟩ (Z gL n b)).setCell ⟨g,1,U⟩ (Z U 0 0)) S g gL b U 0 ⟨es,[]⟩∧ak (fun k=>k=g) c ((c.setCell ⟨g,0,U⟩ (Z gL n b)).setCell ⟨g,1,U⟩ (Z U 0 0)):=by
 subst j;have d:ak (fun k=>k=g) c ((c.setCell ⟨g,0,U⟩ (Z gL es.length b)).setCell ⟨g,1,U⟩ (Z U 0 0)):=(ak.j (fun k=>k=g) c ⟨g,0,U⟩ _ rfl).a (ak.j (fun k=>k=g) _ ⟨g,1,U⟩ _ rfl) (fun _ e _=>e);refine⟨⟨?_,?_,bl.q _ _ _,fun a e=>(by cases e),i⟩,d⟩
 . have l:(c.setCell ⟨g,0,U⟩ (Z gL es.length b)).heap[g]? = M (K #[Z gL es.length b,y] 354 (0,0)):=by rw[aR c g 0 _ _ _ f];rfl
   rw[aR _ g 1 _ _ _ l];rfl
 . exact(ha.e d (fun k e=>e.2)).a (fun k _ e=>⟨e,by simp[aw]⟩)
theorem Ns (w:X)(S:Nat->Prop)(g:Nat)(ao:ag)(cap:Nat)(bo:ag)(a:Nat)(es:List aA)(h:fW w S g ao cap bo a ⟨es,[]⟩):
 Calls prog 322 #[Q (M ⟨g,0,U⟩)] w fun e w'=>e=Y (Z ao es.length cap)∧w'=w:=by
 have b:=h.j;have c:=h.q;generalize es.length=n at *;go_enter func322,ntmps322;go_wp2;go_ret;exact⟨rfl,rfl⟩
theorem Nt (w:X)(S:Nat->Prop)(g:Nat)(ao:ag)(cap:Nat)(bo:ag)(c n nb:Nat)(t:dI)(h:fW w S g ao cap bo c t)(hb:t.a≠[])(x:t.b.length=n)(hl:n<=100000)(i:t.a.length=nb):
 Calls prog 322 #[Q (M ⟨g,0,U⟩)] w fun e w'=>∃gL m,e=Y (Z gL (n+1) m)∧fW w' (ay S w) g gL m U 0 ⟨t.b++[dU t.a],[]⟩∧ak S w w':=by
 have c0:=x▸h.j;have c1:=i▸h.q;have hnp:0<nb:=by rw[<-i];exact mC.2 hb
 have t0:=bq (by omega);obtain⟨ps,L,N⟩:=h.e.y (K #[I J 2,V ⟨#[]⟩,V ⟨#[]⟩,I J 0,Z U 0 0,I J 0,Z bo nb c,V ⟨#[]⟩,V ⟨#[]⟩,V ⟨#[]⟩,Z U 0 0,I J 0] 98);rw[x] at L N;have y:∀k,aw ao=M k->(S k∧k≠g)∧aw bo≠M k:=fun k e=>by
  obtain⟨_,_,_,hm,_⟩:=h.e;cases ao with
  | none=>cases e
  | some a=>injection e with e;subst e;exact hm a rfl
 have HK:∀z,(w.alloc (K #[I J 2,V ⟨#[]⟩,V ⟨#[]⟩,I J 0,Z U 0 0,I J 0,Z bo nb c,V ⟨#[]⟩,V ⟨#[]⟩,V ⟨#[]⟩,Z U 0 0,I J 0] 98)).drew.grownBy z (Value.slice ao n cap).ownBlock->z.heap[g]? = M (K #[Z ao n cap,Z bo nb c] 354 (0,0)):=fun z s=>by
  rw[dp] at s;have T:=((ar _ w).alloc (am _) (K #[I J 2,V ⟨#[]⟩,V ⟨#[]⟩,I J 0,Z U 0 0,I J 0,Z bo nb c,V ⟨#[]⟩,V ⟨#[]⟩,V ⟨#[]⟩,Z U 0 0,I J 0] 98)).block g h.a;have W:=s.block g (by show g<(w.alloc _).heap.size;rw[bu];have:=h.a;omega) (fun e=>(y g e.symm).1.2 rfl);have l:=h.c;rw[x,i] at l;exact W.trans (T.trans l)
 have je:=(ar _ w).alloc (am _) (K #[I J 2,V ⟨#[]⟩,V ⟨#[]⟩,I J 0,Z U 0 0,I J 0,Z bo nb c,V ⟨#[]⟩,V ⟨#[]⟩,V ⟨#[]⟩,Z U 0 0,I J 0] 98);have c0a:=(je.cell (p:=⟨g,0,U⟩) h.a).trans c0;have c1a:=(je.cell (p:=⟨g,1,U⟩) h.a).trans c1;have HO:=aL.r L (bg _ _);have Yr:∀j u,((dU t.a).e ⟨U,0,bo,c,U,0⟩)[j]? = M u->(w.alloc (K #[I J 2,V ⟨#[]⟩,V ⟨#[]⟩,I J 0,Z U 0 0,I J 0,Z bo nb c,V ⟨#[]⟩,V ⟨#[]⟩,V ⟨#[]⟩,Z U 0 0,I J 0] 98)).drew.cell? (Addr.add ⟨w.heap.size,0,U⟩ j)=M u:=fun j u hu=>by
  rw[gg,eh];show(w.alloc _).cell? _=_;rw[World.cell?_alloc_at _ _ _ _ rfl,<-i,mB];exact hu
 have B:fY w (fun k=>aw bo=M k) (dU t.a) ⟨U,0,bo,c,U,0⟩:=⟨jt.a _ _,⟨h.f.f,fun _ a e=>by have e:bo=M a:=e;rw[e];rfl⟩,dM.f _ _⟩;obtain⟨i0,C,D,G,H⟩:=info_parts E4;have Hi:=C;have kS:=aa D;have kM:=aa G;have kT:=aa H
 have HN:n+1<=maxLen∧(n+1)*184<=140737488355328:=⟨by unfold maxLen;omega,by omega⟩;go_enter func322,ntmps322;go_wp2;go_region_law
  ((refine step_append_lies _ (by rfl) _ _ _ (by rfl) 0 98 i0 (.agg #[I J 0,V ⟨#[]⟩,V ⟨#[]⟩,I J 0,Z U 0 0,I J 0,Z U 0 0,V ⟨#[]⟩,V ⟨#[]⟩,V ⟨#[]⟩,Z U 0 0,I J 0]) 12 184 underlying58 Hi kS.o kM.o kT.o (by rfl) (by decide) (Z ao n cap) n _ (by rfl) HO ⟨w.heap.size,0,U⟩ 1 1 ((dU t.a).e ⟨U,0,bo,c,U,0⟩) (by rfl) (by rfl) Yr (sH _ _) (by decide) HN.1 HN.2 (ax _) (w.heap.size+1) (by simp) ?_;intro g3 iw f d b kE hlt3;have l:=HK _ b;have q0:f.cell? ⟨g,0,U⟩=M (Z ao n cap):=aq f g 0 _ _ _ l;have q1:f.cell? ⟨g,1,U⟩=M (Z bo nb c):=aq f g 1 _ _ _ l;have f0:f.frozen? ⟨g,0,U⟩=false:=aP f g 0 _ _ l;have f1:f.frozen? ⟨g,1,U⟩=false:=aP f g 1 _ _ l;have q:=aa l;have yK:=aa b;have sW:=aa d;have Ki:=aa kE;clear b d kE l))
 all_goals
  go_wp2;go_ret;have s:=yK.o;have v:=Ki.o;rw[dp] at s v;obtain⟨r1,r2⟩:=N (M ⟨g3,0,U⟩) iw f (dU t.a) ⟨U,0,bo,c,U,0⟩ (fun k=>aw bo=M k) _ rfl B ⟨rfl,rfl⟩ (fun k e=>e.2) sW.o (op (vK _ _) s) (by
   rcases v with e | e
   . exact A e.symm
   . exact R (by rw[bu,e];rfl))
  have hlt:=h.a;have r3:ju f (fun k=>ay S w k∧k≠g) 98 (M ⟨g3,0,U⟩) iw (t.b++[dU t.a]):=r1.a (fun k _ e=>by
   rcases e with e | e | e
   . exact⟨A e.1.1,e.1.2⟩
   . cases bo with
     | none=>cases e
     | some a=>injection e with e;subst e;exact⟨A (h.b a rfl).1,(h.b a rfl).2⟩
   . exact⟨R e,by omega⟩)
  have r4:=R8 q.o (S:=ay S w) (A h.d) r3 (n:=n+1) (by rw[aD];exact lL (·+1) (by obtain⟨qs,hq,hw,_⟩:=h.e;have T:=h.c;have W:=q.o;have:=h.j;have h4:=q0;exact(by
   have r:=r2.q h.c (fun e=>e.1.2 rfl);rw[q.o] at r;injection r with r;injection r with r;have:=lL (fun a:Array Value=>a[0]?) r;simpa using this)))
  exact⟨_,_,rfl,r4.1,(r2.f (fun k e=>e.1.1)).a (r4.2.f (S':=S) (fun k e=>by subst e;exact h.d)) (fun _ e _=>e)⟩
theorem Qp {w c:X}{S:Nat->Prop}{g:Nat}{ao bo d:ag}{cap r b n:Nat}{t:dI}{l:ab}(h:fW w S g ao cap bo r t)(s:bl c 0 5 d b (t.a++l))(u:w.grownBy c (aw bo))(f:aw d=aw bo∨aw d=M w.heap.size)(v:n=(t.a++l).length):
 fW (c.setCell ⟨g,1,U⟩ (Z d n b)) (ay S w) g ao cap d b ⟨t.b,t.a++l⟩∧ak S w (c.setCell ⟨g,1,U⟩ (Z d n b)):=by
 subst v;have x:=h.a;have i:=ak.y u (fun k e=>e);have j:∀k,aw bo=M k->S k∧k≠g:=fun k e=>by
  cases bo with
  | none=>cases e
  | some a=>injection e with e;subst e;exact h.b a rfl
 have y:=i.q h.c (fun e=>(j g e).2 rfl);have q:ak (fun k=>k=g) c (c.setCell ⟨g,1,U⟩ (Z d (t.a++l).length b)):=ak.j (fun k=>k=g) c ⟨g,1,U⟩ _ rfl;have o:∀a,d=M a->ay S w a.block∧a.block≠g:=fun a e=>by
  rw[e] at f;rcases f with m | m
  . have:=j a.block m.symm;exact⟨A this.1,this.2⟩
  . injection m with m;exact⟨R (by omega),by omega⟩
 refine⟨⟨?_,?_,s.j q (fun a e=>(o a e).2),o,A h.d⟩,(i.f (fun k e=>(j k e).1)).a (q.f (S':=S) (fun k e=>by subst e;exact h.d)) (fun _ e _=>e)⟩
 . rw[aR c g 1 _ _ _ y];rfl
 . have z:=(h.e.a (S':=fun k=>((S k∧k≠g)∧aw bo≠M k)∧k<w.heap.size) (fun k B e=>⟨e,B⟩)).e i (fun k e=>e.1.2);refine(z.e q (fun k e=>e.1.1.2)).a (fun k _ e=>⟨⟨A e.1.1.1,e.1.1.2⟩,fun m=>?_⟩);rcases f with p | p
   . exact e.1.2 (p.symm.trans m)
   . rw[m] at p;injection p with p;have:=e.2;omega
theorem LR (w:X)(S:Nat->Prop)(g:Nat)(t:dI)(u:ag)(v m:Nat)(l:ab)(h:et w S g t)(H:az w u v l)(L:l.length=m)(N:t.a.length+m<=1000000):
 Calls prog 371 #[Q (M ⟨g,0,U⟩),Z u m v] w fun e w'=>e=Y (.tuple #[])∧et w' (ay S w) g ⟨t.b,t.a++l⟩∧ak S w w':=by
 obtain⟨ao,T,k,W,h⟩:=h;obtain⟨nb,c⟩:∃nb,t.a.length=nb:=⟨_,rfl⟩;have c1:=c▸h.q;have x:=h;have HS:=aa H;have y:=aa L;have d:=aa c
 have f:aw k≠M g:=fun e=>by
  cases k with
  | none=>cases e
  | some a=>injection e with e;exact(h.b a rfl).2 e
 have z:∀i,w.grownBy i (aw k)->i.cell? ⟨g,1,U⟩=M (Z k nb W)∧i.frozen? ⟨g,1,U⟩=false:=fun i B=>by
  have h1:=B.block g h.a (fun e=>f e.symm);have h2:=h1.trans h.c;exact⟨(B.cell c1 (fun e=>f e.symm)),aP i g 1 _ _ h2⟩
 rw[c] at N;obtain⟨i0,p,q,r,s⟩:=info_parts gm;have Hi:=p;have kS:=aa q;have kM:=aa r;have kT:=aa s
 go_enter func371,ntmps371;go_wp2_with (at_builtin;refine sR rfl (.tmp 8) (.tmp 9) 31 rfl 0 5 i0 underlying31 Hi kS.o kM.o kT.o (l:=t.a) (l2:=l) rfl d.o x.f rfl y.o HS.o (by omega) (ax _) ?_;intro lN iw C j b D;have q1:=(z C b).1;have qf:=(z C b).2;have sW:=aa j;have yK:=aa b;have Ki:=aa D;clear j b D)
 have G:=Qp x sW.o yK.o Ki.o (n:=nb+m) (by rw[aD,d.o,y.o]);go_end0
 exact⟨rfl,⟨_,_,_,_,G.1⟩,G.2⟩
def mK (k:Int)(pn pf pt:ae)(c:Int):aA:=⟨k,⟨#[]⟩,⟨#[]⟩,0,[],0,[],pn,pf,pt,[],c⟩
theorem Er (w:X)(S:Nat->Prop)(g:Nat)(t:dI)(h:et w S g t)(i:t.b.length<=100000):
 Calls prog 322 #[Q (M ⟨g,0,U⟩)] w fun e w'=>∃ao cap bo a,e=Y (Z ao (fF t).length cap)∧fW w' (ay S w) g ao cap bo a ⟨fF t,[]⟩∧ak S w w':=by
 obtain⟨ao,cap,bo,a,h⟩:=h;obtain⟨es,bs⟩:=t;by_cases c:bs=[]
 . subst c;have d:fF ⟨es,[]⟩=es:=by unfold fF ih;simp
   rw[d];refine(Ns w S g ao cap bo a es h).mono ?_;rintro e w' ⟨f,j⟩;subst j;exact⟨ao,cap,bo,a,f,h.r (fun k _ e=>A e),ak.r _ _⟩
 . have d:fF ⟨es,bs⟩=es++[dU bs]:=by unfold fF ih;simp[c]
   rw[d];refine(Nt w S g ao cap bo a es.length bs.length ⟨es,bs⟩ h c rfl i rfl).mono ?_;rintro e w' ⟨l,b,f,m,n⟩;exact⟨l,b,U,0,by rw[f];simp,m,n⟩
theorem ju.q {W:X}{S:Nat->Prop}{d:Nat}{ao:ag}{cap:Nat}{es:List aA}(h:ju W S d ao cap es):∃f:List (aA×cS),aL W 0 d 12 ao cap es.length (cR f) ∧
 ∀gL b w' (e:aA) s (N:Nat->Prop) g,e.e s=g->fY W N e s->s.c=U∧s.b=0->(∀k,S k->¬N k)->aL w' 0 d 12 gL b (es.length+1) (cR f++g)->W.grownBy w' (aw ao)->(aw gL=aw ao∨aw gL=M W.heap.size)->ju w' (fun k=>S k∨N k∨W.heap.size<=k) d gL b (es++[e])∧ak S W w':=by
 obtain⟨f,c,q,m,r,t⟩:=h;refine⟨f,q,fun gL b w' e s N g u v i w n o j=>?_⟩;subst u;have x:cR [(e,s)]=e.e s:=by simp[cR]
 rw[<-x] at n;have:=ju.f (N:=N) m r (ps2:=[(e,s)]) (fun p l=>by rw[cW.1 l];exact v) w n (by rw[<-c,iv];rfl) o j t (fun p l=>by rw[cW.1 l];exact i);refine⟨?_,ak.y (S:=S) o (fun k e=>?_)⟩
 . rw[c] at this;refine this.a (fun k y e=>?_);rcases e with e | e | e
   . exact A e
   . exact R (A e)
   . exact R (R (by omega))
 . cases ao with
   | none=>cases e
   | some a=>injection e with e;subst e;exact m a rfl
theorem fW.y {W:X}{S:Nat->Prop}{g:Nat}{ao bo:ag}{cap n:Nat}{es:List aA}(h:fW W S g ao cap bo n ⟨es,[]⟩):∃xs,aL W 0 98 12 ao cap es.length xs ∧
 ∀b f d k j l m c, aL d 0 98 12 (M ⟨b, 0, U⟩) f (es.length + 1) (xs ++ (mK k j l m c).e ⟨U, 0, U, 0, U, 0⟩) -> W.grownBy d (aw ao) -> (aw ao = M b ∨ b = W.heap.size) ->
   d.heap[g]? = M (K #[Z ao es.length cap,Z bo 0 n] 354 (0,0))∧fW (d.setCell ⟨g,0,U⟩ (Z (M ⟨b,0,U⟩) (es.length+1) f)) (ay S W) g (M ⟨b,0,U⟩) f bo n ⟨es++[mK k j l m c],[]⟩∧ak S W (d.setCell ⟨g,0,U⟩ (Z (M ⟨b,0,U⟩) (es.length+1) f)):=by
 obtain⟨u,v,w⟩:=h.e.q;refine⟨cR u,v,fun b f d k j l m c o x p=>?_⟩;obtain⟨y,q⟩:=w (M ⟨b,0,U⟩) f d (mK k j l m c) ⟨U,0,U,0,U,0⟩ (fun _=>False) _ rfl ⟨jt.a _ _,dM.f _ _,dM.f _ _⟩ ⟨rfl,rfl⟩ (fun _ _ e=>e) o x (by
  rcases p with e | e
  . exact A e.symm
  . exact R (by rw[e];rfl))
 have z:=h.a;have t:=q.q h.c (fun e=>e.1.2 rfl);have r:ak (fun i=>i=g) d (d.setCell ⟨g,0,U⟩ (Z (M ⟨b,0,U⟩) (es.length+1) f)):=ak.j (fun i=>i=g) d ⟨g,0,U⟩ _ rfl;refine⟨t,⟨?_,?_,?_,fun a e=>⟨A (h.b a e).1,(h.b a e).2⟩,A h.d⟩,(q.f (fun i e=>e.1.1)).a (r.f (S':=S) (fun i e=>by subst e;exact h.d)) (fun _ e _=>e)⟩
 . rw[aR d g 0 _ _ _ t];show M (Obj.cells #[Z (M ⟨b,0,U⟩) (es.length+1) f,Z bo 0 n] _ _)=M (Obj.cells #[Z (M ⟨b,0,U⟩) (es++[mK k j l m c]).length f,Z bo 0 n] _ _);rw[aD];rfl
 . have B:ju d (fun i=>(ay S W i∧i≠g)∧aw bo≠M i) 98 (M ⟨b,0,U⟩) f (es++[mK k j l m c]):=y.a (fun i _ e=>by
    rcases e with e | e | e
    . exact⟨⟨A e.1.1,e.1.2⟩,e.2⟩
    . exact e.elim
    . refine⟨⟨R e,by omega⟩,fun s=>?_⟩;cases bo with
      | none=>cases s
      | some a=>injection s with s;have:=(h.f.e a rfl).2;omega)
   exact B.e r (fun i e=>e.1.2)
 . exact(h.f.j q (fun a e k=>k.2 (by rw[e];rfl))).j r (fun a e=>(h.b a e).2)
theorem E5 {w W c W' b:X}{S:Nat->Prop}{g:Nat}{t:dI}{ao bo:ag}{cap j:Nat}(d:Below w.heap.size w W)(f:ak (fun i=>S i∧i<w.heap.size) W c)(a:Below c.heap.size c W')(l:fW b (ay (ay (fun i=>S i∧i<w.heap.size) W) W') g ao cap bo j t)(m:ak (ay (fun i=>S i∧i<w.heap.size) W) W' b):et b (ay S w) g t∧ak S w b:=by
 have n:=d.size;have o:=f.b;have p:=a.size
 refine⟨⟨_,_,_,_,l.r (fun k _ e=>?_)⟩,?_⟩
 . rcases e with e | e
   . rcases e with e | e
     . exact A e.1
     . exact R (by omega)
   . exact R (by omega)
 . refine(((ak.e (S:=S) d).a (f.f (S':=S) (fun i e=>e.1)) (fun _ e _=>e)).a (ak.e (S:=S) a) (fun _ e _=>e)).a m (fun i e q=>?_);rcases e with e | e
   . exact e.1
   . omega
theorem yw (w:X)(S:Nat->Prop)(g:Nat)(t:dI)(k:Int)(d f l:ae)(c:Int)(h:et w S g t)(hk:k≠2)(hl:t.b.length<=90000):
 Calls prog 321 #[Q (M ⟨g,0,U⟩),.agg #[I J k,V ⟨#[]⟩,V ⟨#[]⟩,I J 0,Z U 0 0,I J 0,Z U 0 0,V d,V f,V l,Z U 0 0,I J c]] w fun e w'=>e=Y (.tuple #[])∧et w' (ay S w) g (nP t (mK k d f l c))∧ak S w w':=by
 have HE:Hid (nP t (mK k d f l c)=⟨fF t++[mK k d f l c],[]⟩):=by unfold Hid nP;exact if_neg hk
 have hfl:(fF t).length<=90001:=by
  unfold fF ih;rw[aD];split <;> simp <;> omega
 have HA:∀W,et W (fun i=>S i∧i<w.heap.size) g t->Calls prog 322 #[Q (M ⟨g,0,U⟩)] W fun e w'=>∃D p bo bc,e=Y (Z D (fF t).length p)∧fW w' (ay (fun i=>S i∧i<w.heap.size) W) g D p bo bc ⟨fF t,[]⟩∧ak (fun i=>S i∧i<w.heap.size) W w':=fun W hW=>Er W _ g t hW (by omega);have h0:et w (fun i=>S i∧i<w.heap.size) g t:=h.e (fun i hi e=>⟨e,hi⟩);have G:Below w.heap.size w (w.alloc (K #[I J k,V ⟨#[]⟩,V ⟨#[]⟩,I J 0,Z U 0 0,I J 0,Z U 0 0,V d,V f,V l,Z U 0 0,I J c] 98)).drew:=((ar _ w).alloc (am _) _).trans (bg _ _);have H:Below w.heap.size w ((w.alloc (K #[I J k,V ⟨#[]⟩,V ⟨#[]⟩,I J 0,Z U 0 0,I J 0,Z U 0 0,V d,V f,V l,Z U 0 0,I J c] 98)).alloc (K #[I J k,V ⟨#[]⟩,V ⟨#[]⟩,I J 0,Z U 0 0,I J 0,Z U 0 0,V d,V f,V l,Z U 0 0,I J c] 98)).drew:=(((ar _ w).alloc (am _) _).alloc (by rw[bu];omega) _).trans (bg _ _);have HT1:=(h0.f G);have HT2:=aa (h0.f H)
 have HMe:S g:=by obtain⟨_,_,_,_,h⟩:=h;exact h.d
 have HB1:=G;have HB2:=aa H
 have Z0:∀a,ak (fun i=>S i∧i<w.heap.size) (w.alloc (K #[I J k,V ⟨#[]⟩,V ⟨#[]⟩,I J 0,Z U 0 0,I J 0,Z U 0 0,V d,V f,V l,Z U 0 0,I J c] 98)).drew a->a.heap[w.heap.size]? = M (K #[I J k,V ⟨#[]⟩,V ⟨#[]⟩,I J 0,Z U 0 0,I J 0,Z U 0 0,V d,V f,V l,Z U 0 0,I J c] 98 (0,0)):=fun a r=>r.q (be w _) (fun e=>by have:=e.2;omega);have RN:∀a,ak (fun i=>S i∧i<w.heap.size) ((w.alloc (K #[I J k,V ⟨#[]⟩,V ⟨#[]⟩,I J 0,Z U 0 0,I J 0,Z U 0 0,V d,V f,V l,Z U 0 0,I J c] 98)).alloc (K #[I J k,V ⟨#[]⟩,V ⟨#[]⟩,I J 0,Z U 0 0,I J 0,Z U 0 0,V d,V f,V l,Z U 0 0,I J c] 98)).drew a->∀j u,((mK k d f l c).e ⟨U,0,U,0,U,0⟩)[j]? = M u->a.cell? (Addr.add ⟨w.heap.size+1,0,U⟩ j)=M u:=fun a r j u hu=>by
  have h1:((w.alloc (K #[I J k,V ⟨#[]⟩,V ⟨#[]⟩,I J 0,Z U 0 0,I J 0,Z U 0 0,V d,V f,V l,Z U 0 0,I J c] 98)).alloc (K #[I J k,V ⟨#[]⟩,V ⟨#[]⟩,I J 0,Z U 0 0,I J 0,Z U 0 0,V d,V f,V l,Z U 0 0,I J c] 98)).drew.heap[w.heap.size+1]? = M (K #[I J k,V ⟨#[]⟩,V ⟨#[]⟩,I J 0,Z U 0 0,I J 0,Z U 0 0,V d,V f,V l,Z U 0 0,I J c] 98 (0,0)):=by
   have:=be (w.alloc (K #[I J k,V ⟨#[]⟩,V ⟨#[]⟩,I J 0,Z U 0 0,I J 0,Z U 0 0,V d,V f,V l,Z U 0 0,I J c] 98)) (K #[I J k,V ⟨#[]⟩,V ⟨#[]⟩,I J 0,Z U 0 0,I J 0,Z U 0 0,V d,V f,V l,Z U 0 0,I J c] 98);rw[bu] at this;exact this
  have h2:=r.q h1 (fun e=>by have:=e.2;omega);rw[gg,eh,aq a (w.heap.size+1) j _ _ _ h2,mB];exact hu
 have HX3:∀(a:X) j u,((mK k d f l c).e ⟨U,0,U,0,U,0⟩)[j]? = M u->(a.alloc (K #[I J k,V ⟨#[]⟩,V ⟨#[]⟩,I J 0,Z U 0 0,I J 0,Z U 0 0,V d,V f,V l,Z U 0 0,I J c] 98)).cell? (Addr.add ⟨a.heap.size,0,U⟩ j)=M u:=fun a j u hu=>by
  rw[gg,eh,World.cell?_alloc_at _ _ _ _ rfl,mB];exact hu
 obtain⟨i0,hi0,hz0,hz1,hz2⟩:=info_parts E4;have Hi:=hi0;have kS:=aa hz0;have kM:=aa hz1;have kT:=aa hz2
 have L:(fF t).length+1<=maxLen∧((fF t).length+1)*184<=140737488355328:=⟨by unfold maxLen;omega,by omega⟩;generalize (fF t)=fl at *;obtain⟨n,z⟩:∃n,fl.length=n:=⟨_,rfl⟩;rw[z] at HA L;go_enter func321,ntmps321;go_wp2;go_region_law (first
  | (go_simp;go_at_call 322;refine(HA _ HT1).mono ?_;rintro e a ⟨D,p,bo,bc,rfl,N,r⟩;have q:=Z0 _ r;have x0:a.cell? ⟨w.heap.size,0,U⟩=_:=aq a _ 0 _ _ _ q;have x1:a.cell? ⟨w.heap.size,1,U⟩=_:=aq a _ 1 _ _ _ q;have x2:a.cell? ⟨w.heap.size,2,U⟩=_:=aq a _ 2 _ _ _ q;have x3:a.cell? ⟨w.heap.size,3,U⟩=_:=aq a _ 3 _ _ _ q;have x4:a.cell? ⟨w.heap.size,4,U⟩=_:=aq a _ 4 _ _ _ q;have x5:a.cell? ⟨w.heap.size,5,U⟩=_:=aq a _ 5 _ _ _ q;have x6:a.cell? ⟨w.heap.size,6,U⟩=_:=aq a _ 6 _ _ _ q;have x7:a.cell? ⟨w.heap.size,7,U⟩=_:=aq a _ 7 _ _ _ q;have x8:a.cell? ⟨w.heap.size,8,U⟩=_:=aq a _ 8 _ _ _ q;have x9:a.cell? ⟨w.heap.size,9,U⟩=_:=aq a _ 9 _ _ _ q;have x10:a.cell? ⟨w.heap.size,10,U⟩=_:=aq a _ 10 _ _ _ q;have x11:a.cell? ⟨w.heap.size,11,U⟩=_:=aq a _ 11 _ _ _ q;simp only[mB,List.getElem?_cons_zero,List.getElem?_cons_succ] at x0 x1 x2 x3 x4 x5 x6 x7 x8 x9 x10 x11;have HT:=aa r;obtain⟨xs,s,v⟩:=(N.B ((ar _ _).alloc (am _) (K #[I J k,V ⟨#[]⟩,V ⟨#[]⟩,I J 0,Z U 0 0,I J 0,Z U 0 0,V d,V f,V l,Z U 0 0,I J c] 98))).y;have Wi:=aa s;have B:=aa v;clear r q N s v)
  | (go_simp;go_at_call 322;refine(HA _ HT2.o).mono ?_;rintro e a ⟨D,p,bo,bc,rfl,N,r⟩;have HXc:=aa (RN _ r);have HT:=aa r;obtain⟨xs,s,v⟩:=N.y;have Wi:=aa s;have B:=aa v;clear r N s v)
  | (refine step_append_lies _ (by rfl) _ _ _ (by rfl) 0 98 i0 (.agg #[I J 0,V ⟨#[]⟩,V ⟨#[]⟩,I J 0,Z U 0 0,I J 0,Z U 0 0,V ⟨#[]⟩,V ⟨#[]⟩,V ⟨#[]⟩,Z U 0 0,I J 0]) 12 184 underlying58 Hi kS.o kM.o kT.o (by rfl) (by decide) (Z D n p) n _ (by rfl) (z▸Wi.o) ⟨a.heap.size,0,U⟩ 1 1 ((mK k d f l c).e ⟨U,0,U,0,U,0⟩) (by rfl) (by rfl) (HX3 a) (sH _ _) (by decide) L.1 L.2 (ax _) (a.heap.size+1) (by simp) ?_;intro g3 iw x m b C T;rw[dp] at b C;have y:=B.o g3 iw x k d f l c (z.symm▸m) b (by simpa using C);have q0:x.cell? ⟨g,0,U⟩=_:=aq x g 0 _ _ _ y.1;have f0:x.frozen? ⟨g,0,U⟩=false:=aP x g 0 _ _ y.1;rw[z] at q0 y;have HQ:=aa y;clear y b m C)
  | (refine step_append_lies _ (by rfl) _ _ _ (by rfl) 0 98 i0 (.agg #[I J 0,V ⟨#[]⟩,V ⟨#[]⟩,I J 0,Z U 0 0,I J 0,Z U 0 0,V ⟨#[]⟩,V ⟨#[]⟩,V ⟨#[]⟩,Z U 0 0,I J 0]) 12 184 underlying58 Hi kS.o kM.o kT.o (by rfl) (by decide) (Z D n p) n _ (by rfl) (z▸Wi.o) ⟨w.heap.size+1,0,U⟩ 1 1 ((mK k d f l c).e ⟨U,0,U,0,U,0⟩) (by rfl) (by rfl) HXc.o (sH _ _) (by decide) L.1 L.2 (ax _) a.heap.size (by rfl) ?_;intro g3 iw x m b C T;rw[dp] at b C;have y:=B.o g3 iw x k d f l c (z.symm▸m) b (by simpa using C);have q0:x.cell? ⟨g,0,U⟩=_:=aq x g 0 _ _ _ y.1;have f0:x.frozen? ⟨g,0,U⟩=false:=aP x g 0 _ _ y.1;rw[z] at q0 y;have HQ:=aa y;clear y b m C))
 all_goals
  go_wp2;go_end0
  rw[HE.o];first
   | exact⟨rfl,E5 HB1 HT.o ((ar _ _).alloc (am _) _) HQ.o.2.1 HQ.o.2.2⟩
   | exact⟨rfl,E5 HB2.o HT.o (ar _ _) HQ.o.2.1 HQ.o.2.2⟩
