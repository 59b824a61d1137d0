import Derived.Test.YtodmelffkfbalaaGreatDoorPk24
import Derived.Deep.RegionLaw
import Derived.Deep.AppendLies
open Go.Value renaming int->I,string->V,slice->Z,pointer->Q
open Go.IntKind renaming i64->J
open Go.Obj renaming cells->K
open Go.Ending renaming returned->Y
open Option renaming none->U,some->M
open Or renaming inl->A,inr->R
open Go renaming World->X
set_option maxHeartbeats 4000000
set_option maxRecDepth 100000
open Go.Proofs.Tryz
namespace Go.Proofs.YtodmelffkfbalaaGreatDoor
open Go.RowKit
theorem EZ:(prog.info? 98).map (fun i=>(i.zero,i.size,i.bytes))=M (M (.agg #[I J 0,V ⟨#[]⟩,V ⟨#[]⟩,I J 0,Z U 0 0,I J 0,Z U 0 0,V ⟨#[]⟩,V ⟨#[]⟩,V ⟨#[]⟩,Z U 0 0,I J 0]),12,184):=by kernel_rfl
theorem Sp {c:X}{S:Nat->Prop}{g:Nat}{x y:Value}{gL:ag}{b n:Nat}{es:List az}(f:c.heap[g]? = M (K #[x,y] 354 (0,0)))(i:S g)(ha:jt c (fun k=>S k∧k≠g) 98 gL b es)(j:n=es.length):
 fU ((c.setCell ⟨g,0,U⟩ (Z gL n b)).setCell ⟨g,1,U⟩ (Z U 0 0)) S g gL b U 0 ⟨es,[]⟩∧am (fun k=>k=g) c ((c.setCell ⟨g,0,U⟩ (Z gL n b)).setCell ⟨g,1,U⟩ (Z U 0 0)):=by
 subst j;have d:am (fun k=>k=g) c ((c.setCell ⟨g,0,U⟩ (Z gL es.length b)).setCell ⟨g,1,U⟩ (Z U 0 0)):=(am.r (fun k=>k=g) c ⟨g,0,U⟩ _ rfl).a (am.r (fun k=>k=g) _ ⟨g,1,U⟩ _ rfl) (fun _ e _=>e);refine⟨⟨?_,?_,bl.y _ _ _,fun a e=>(by cases e),i⟩,d⟩
 . have l:(c.setCell ⟨g,0,U⟩ (Z gL es.length b)).heap[g]? = M (K #[Z gL es.length b,y] 354 (0,0)):=by rw[aP c g 0 _ _ _ f];rfl
   rw[aP _ g 1 _ _ _ l];rfl
 . exact(ha.f d (fun k e=>e.2)).a (fun k _ e=>⟨e,by simp[aw]⟩)
theorem Nh (w:X)(S:Nat->Prop)(g:Nat)(ao:ag)(cap:Nat)(bo:ag)(a:Nat)(es:List az)(h:fU w S g ao cap bo a ⟨es,[]⟩):
 Calls prog 322 #[Q (M ⟨g,0,U⟩)] w fun e w'=>e=Y (Z ao es.length cap)∧w'=w:=by
 have b:=h.j;have c:=h.r;generalize es.length=n at *;go_enter func322,ntmps322;go_wp2;go_ret;exact⟨rfl,rfl⟩
theorem Ni (w:X)(S:Nat->Prop)(g:Nat)(ao:ag)(cap:Nat)(bo:ag)(c n nb:Nat)(t:dI)(h:fU w S g ao cap bo c t)(hb:t.a≠[])(x:t.b.length=n)(hl:n<=100000)(i:t.a.length=nb):
 Calls prog 322 #[Q (M ⟨g,0,U⟩)] w fun e w'=>∃gL m,e=Y (Z gL (n+1) m)∧fU w' (ay S w) g gL m U 0 ⟨t.b++[dS t.a],[]⟩∧am S w w':=by
 have c0:=x▸h.j;have c1:=i▸h.r;have hnp:0<nb:=by rw[<-i];exact kY.2 hb
 have t0:=br (by omega);obtain⟨ps,L,N⟩:=h.e.G (K #[I J 2,V ⟨#[]⟩,V ⟨#[]⟩,I J 0,Z U 0 0,I J 0,Z bo nb c,V ⟨#[]⟩,V ⟨#[]⟩,V ⟨#[]⟩,Z U 0 0,I J 0] 98);rw[x] at L N;have y:∀k,aw ao=M k->(S k∧k≠g)∧aw bo≠M k:=fun k e=>by
  obtain⟨_,_,_,hm,_⟩:=h.e;cases ao with
  | none=>cases e
  | some a=>injection e with e;subst e;exact hm a rfl
 have HK:∀z,(w.alloc (K #[I J 2,V ⟨#[]⟩,V ⟨#[]⟩,I J 0,Z U 0 0,I J 0,Z bo nb c,V ⟨#[]⟩,V ⟨#[]⟩,V ⟨#[]⟩,Z U 0 0,I J 0] 98)).drew.grownBy z (Value.slice ao n cap).ownBlock->z.heap[g]? = M (K #[Z ao n cap,Z bo nb c] 354 (0,0)):=fun z s=>by
  rw[dq] at s;have T:=((ar _ w).alloc (ak _) (K #[I J 2,V ⟨#[]⟩,V ⟨#[]⟩,I J 0,Z U 0 0,I J 0,Z bo nb c,V ⟨#[]⟩,V ⟨#[]⟩,V ⟨#[]⟩,Z U 0 0,I J 0] 98)).block g h.a;have W:=s.block g (by show g<(w.alloc _).heap.size;rw[bF];have:=h.a;omega) (fun e=>(y g e.symm).1.2 rfl);have l:=h.c;rw[x,i] at l;exact W.trans (T.trans l)
 have jf:=(ar _ w).alloc (ak _) (K #[I J 2,V ⟨#[]⟩,V ⟨#[]⟩,I J 0,Z U 0 0,I J 0,Z bo nb c,V ⟨#[]⟩,V ⟨#[]⟩,V ⟨#[]⟩,Z U 0 0,I J 0] 98);have c0a:=(jf.cell (p:=⟨g,0,U⟩) h.a).trans c0;have c1a:=(jf.cell (p:=⟨g,1,U⟩) h.a).trans c1;have HO:=aK.B L (bj _ _);have Yi:∀j u,((dS t.a).f ⟨U,0,bo,c,U,0⟩)[j]? = M u->(w.alloc (K #[I J 2,V ⟨#[]⟩,V ⟨#[]⟩,I J 0,Z U 0 0,I J 0,Z bo nb c,V ⟨#[]⟩,V ⟨#[]⟩,V ⟨#[]⟩,Z U 0 0,I J 0] 98)).drew.cell? (Addr.add ⟨w.heap.size,0,U⟩ j)=M u:=fun j u hu=>by
  rw[ge,ee];show(w.alloc _).cell? _=_;rw[World.cell?_alloc_at _ _ _ _ rfl,<-i,mD];exact hu
 have B:fX w (fun k=>aw bo=M k) (dS t.a) ⟨U,0,bo,c,U,0⟩:=⟨js.a _ _,⟨h.f.f,fun _ a e=>by have e:bo=M a:=e;rw[e];rfl⟩,dL.j _ _⟩;obtain⟨i0,C,D,G,H⟩:=info_parts EZ;have Hi:=C;have lg:=aa D;have kZ:=aa G;have lq:=aa H
 have HN:n+1<=maxLen∧(n+1)*184<=140737488355328:=⟨by unfold maxLen;omega,by omega⟩;go_enter func322,ntmps322;go_wp2;go_region_law
  ((refine step_append_lies _ (by rfl) _ _ _ (by rfl) 0 98 i0 (.agg #[I J 0,V ⟨#[]⟩,V ⟨#[]⟩,I J 0,Z U 0 0,I J 0,Z U 0 0,V ⟨#[]⟩,V ⟨#[]⟩,V ⟨#[]⟩,Z U 0 0,I J 0]) 12 184 underlying58 Hi lg.o kZ.o lq.o (by rfl) (by decide) (Z ao n cap) n _ (by rfl) HO ⟨w.heap.size,0,U⟩ 1 1 ((dS t.a).f ⟨U,0,bo,c,U,0⟩) (by rfl) (by rfl) Yi (sC _ _) (by decide) HN.1 HN.2 (ax _) (w.heap.size+1) (by simp) ?_;intro g3 iy f d b jS hlt3;have l:=HK _ b;have q0:f.cell? ⟨g,0,U⟩=M (Z ao n cap):=aq f g 0 _ _ _ l;have q1:f.cell? ⟨g,1,U⟩=M (Z bo nb c):=aq f g 1 _ _ _ l;have f0:f.frozen? ⟨g,0,U⟩=false:=aN f g 0 _ _ l;have f1:f.frozen? ⟨g,1,U⟩=false:=aN f g 1 _ _ l;have q:=aa l;have yE:=aa b;have sP:=aa d;have Km:=aa jS;clear b d jS l))
 all_goals
  go_wp2;go_ret;have s:=yE.o;have v:=Km.o;rw[dq] at s v;obtain⟨r1,r2⟩:=N (M ⟨g3,0,U⟩) iy f (dS t.a) ⟨U,0,bo,c,U,0⟩ (fun k=>aw bo=M k) _ rfl B ⟨rfl,rfl⟩ (fun k e=>e.2) sP.o (og (vJ _ _) s) (by
   rcases v with e | e
   . exact A e.symm
   . exact R (by rw[bF,e];rfl))
  have hlt:=h.a;have r3:jt f (fun k=>ay S w k∧k≠g) 98 (M ⟨g3,0,U⟩) iy (t.b++[dS t.a]):=r1.a (fun k _ e=>by
   rcases e with e | e | e
   . exact⟨A e.1.1,e.1.2⟩
   . cases bo with
     | none=>cases e
     | some a=>injection e with e;subst e;exact⟨A (h.b a rfl).1,(h.b a rfl).2⟩
   . exact⟨R e,by omega⟩)
  have r4:=Sp q.o (S:=ay S w) (A h.d) r3 (n:=n+1) (by rw[aD];exact lL (·+1) (by obtain⟨qs,hq,hw,_⟩:=h.e;have T:=h.c;have W:=q.o;have:=h.j;have h4:=q0;exact(by
   have r:=r2.y h.c (fun e=>e.1.2 rfl);rw[q.o] at r;injection r with r;injection r with r;have:=lL (fun a:Array Value=>a[0]?) r;simpa using this)))
  exact⟨_,_,rfl,r4.1,(r2.j (fun k e=>e.1.1)).a (r4.2.j (S':=S) (fun k e=>by subst e;exact h.d)) (fun _ e _=>e)⟩
theorem QK {w c:X}{S:Nat->Prop}{g:Nat}{ao bo d:ag}{cap r b n:Nat}{t:dI}{l:ab}(h:fU w S g ao cap bo r t)(s:bl c 0 5 d b (t.a++l))(u:w.grownBy c (aw bo))(f:aw d=aw bo∨aw d=M w.heap.size)(v:n=(t.a++l).length):
 fU (c.setCell ⟨g,1,U⟩ (Z d n b)) (ay S w) g ao cap d b ⟨t.b,t.a++l⟩∧am S w (c.setCell ⟨g,1,U⟩ (Z d n b)):=by
 subst v;have x:=h.a;have i:=am.G u (fun k e=>e);have j:∀k,aw bo=M k->S k∧k≠g:=fun k e=>by
  cases bo with
  | none=>cases e
  | some a=>injection e with e;subst e;exact h.b a rfl
 have y:=i.y h.c (fun e=>(j g e).2 rfl);have q:am (fun k=>k=g) c (c.setCell ⟨g,1,U⟩ (Z d (t.a++l).length b)):=am.r (fun k=>k=g) c ⟨g,1,U⟩ _ rfl;have o:∀a,d=M a->ay S w a.block∧a.block≠g:=fun a e=>by
  rw[e] at f;rcases f with m | m
  . have:=j a.block m.symm;exact⟨A this.1,this.2⟩
  . injection m with m;exact⟨R (by omega),by omega⟩
 refine⟨⟨?_,?_,s.j q (fun a e=>(o a e).2),o,A h.d⟩,(i.j (fun k e=>(j k e).1)).a (q.j (S':=S) (fun k e=>by subst e;exact h.d)) (fun _ e _=>e)⟩
 . rw[aP c g 1 _ _ _ y];rfl
 . have z:=(h.e.a (S':=fun k=>((S k∧k≠g)∧aw bo≠M k)∧k<w.heap.size) (fun k B e=>⟨e,B⟩)).f i (fun k e=>e.1.2);refine(z.f q (fun k e=>e.1.1.2)).a (fun k _ e=>⟨⟨A e.1.1.1,e.1.1.2⟩,fun m=>?_⟩);rcases f with p | p
   . exact e.1.2 (p.symm.trans m)
   . rw[m] at p;injection p with p;have:=e.2;omega
theorem LD (w:X)(S:Nat->Prop)(g:Nat)(t:dI)(u:ag)(v m:Nat)(l:ab)(h:ej w S g t)(H:aB w u v l)(L:l.length=m)(N:t.a.length+m<=1000000):
 Calls prog 371 #[Q (M ⟨g,0,U⟩),Z u m v] w fun e w'=>e=Y (.tuple #[])∧ej w' (ay S w) g ⟨t.b,t.a++l⟩∧am S w w':=by
 obtain⟨ao,T,k,W,h⟩:=h;obtain⟨nb,c⟩:∃nb,t.a.length=nb:=⟨_,rfl⟩;have c1:=c▸h.r;have x:=h;have HS:=aa H;have y:=aa L;have d:=aa c
 have f:aw k≠M g:=fun e=>by
  cases k with
  | none=>cases e
  | some a=>injection e with e;exact(h.b a rfl).2 e
 have z:∀i,w.grownBy i (aw k)->i.cell? ⟨g,1,U⟩=M (Z k nb W)∧i.frozen? ⟨g,1,U⟩=false:=fun i B=>by
  have h1:=B.block g h.a (fun e=>f e.symm);have h2:=h1.trans h.c;exact⟨(B.cell c1 (fun e=>f e.symm)),aN i g 1 _ _ h2⟩
 rw[c] at N;obtain⟨i0,p,q,r,s⟩:=info_parts gG;have Hi:=p;have lg:=aa q;have kZ:=aa r;have lq:=aa s
 go_enter func371,ntmps371;go_wp2_with (at_builtin;refine sM rfl (.tmp 8) (.tmp 9) 31 rfl 0 5 i0 underlying31 Hi lg.o kZ.o lq.o (l:=t.a) (l2:=l) rfl d.o x.f rfl y.o HS.o (by omega) (ax _) ?_;intro lS iy C j b D;have q1:=(z C b).1;have qf:=(z C b).2;have sP:=aa j;have yE:=aa b;have Km:=aa D;clear j b D)
 have G:=QK x sP.o yE.o Km.o (n:=nb+m) (by rw[aD,d.o,y.o]);go_end0
 exact⟨rfl,⟨_,_,_,_,G.1⟩,G.2⟩
def mG (k:Int)(pn pf pt:ae)(c:Int):az:=⟨k,⟨#[]⟩,⟨#[]⟩,0,[],0,[],pn,pf,pt,[],c⟩
theorem Ei (w:X)(S:Nat->Prop)(g:Nat)(t:dI)(h:ej w S g t)(i:t.b.length<=100000):
 Calls prog 322 #[Q (M ⟨g,0,U⟩)] w fun e w'=>∃ao cap bo a,e=Y (Z ao (fE t).length cap)∧fU w' (ay S w) g ao cap bo a ⟨fE t,[]⟩∧am S w w':=by
 obtain⟨ao,cap,bo,a,h⟩:=h;obtain⟨es,bs⟩:=t;by_cases c:bs=[]
 . subst c;have d:fE ⟨es,[]⟩=es:=by unfold fE ic;simp
   rw[d];refine(Nh w S g ao cap bo a es h).mono ?_;rintro e w' ⟨f,j⟩;subst j;exact⟨ao,cap,bo,a,f,h.y (fun k _ e=>A e),am.B _ _⟩
 . have d:fE ⟨es,bs⟩=es++[dS bs]:=by unfold fE ic;simp[c]
   rw[d];refine(Ni w S g ao cap bo a es.length bs.length ⟨es,bs⟩ h c rfl i rfl).mono ?_;rintro e w' ⟨l,b,f,m,n⟩;exact⟨l,b,U,0,by rw[f];simp,m,n⟩
theorem jt.y {W:X}{S:Nat->Prop}{d:Nat}{ao:ag}{cap:Nat}{es:List az}(h:jt W S d ao cap es):∃f:List (az×cU),aK W 0 d 12 ao cap es.length (cT f) ∧
 ∀gL b w' (e:az) s (N:Nat->Prop) g,e.f s=g->fX W N e s->s.c=U∧s.b=0->(∀k,S k->¬N k)->aK w' 0 d 12 gL b (es.length+1) (cT f++g)->W.grownBy w' (aw ao)->(aw gL=aw ao∨aw gL=M W.heap.size)->jt w' (fun k=>S k∨N k∨W.heap.size<=k) d gL b (es++[e])∧am S W w':=by
 obtain⟨f,c,q,m,r,t⟩:=h;refine⟨f,q,fun gL b w' e s N g u v i w n o j=>?_⟩;subst u;have x:cT [(e,s)]=e.f s:=by simp[cT]
 rw[<-x] at n;have:=jt.j (N:=N) m r (ps2:=[(e,s)]) (fun p l=>by rw[cY.1 l];exact v) w n (by rw[<-c,gD];rfl) o j t (fun p l=>by rw[cY.1 l];exact i);refine⟨?_,am.G (S:=S) o (fun k e=>?_)⟩
 . rw[c] at this;refine this.a (fun k y e=>?_);rcases e with e | e | e
   . exact A e
   . exact R (A e)
   . exact R (R (by omega))
 . cases ao with
   | none=>cases e
   | some a=>injection e with e;subst e;exact m a rfl
theorem fU.B {W:X}{S:Nat->Prop}{g:Nat}{ao bo:ag}{cap n:Nat}{es:List az}(h:fU W S g ao cap bo n ⟨es,[]⟩):∃xs,aK W 0 98 12 ao cap es.length xs ∧
 ∀b f d k j l m c, aK d 0 98 12 (M ⟨b, 0, U⟩) f (es.length + 1) (xs ++ (mG k j l m c).f ⟨U, 0, U, 0, U, 0⟩) -> W.grownBy d (aw ao) -> (aw ao = M b ∨ b = W.heap.size) ->
   d.heap[g]? = M (K #[Z ao es.length cap,Z bo 0 n] 354 (0,0))∧fU (d.setCell ⟨g,0,U⟩ (Z (M ⟨b,0,U⟩) (es.length+1) f)) (ay S W) g (M ⟨b,0,U⟩) f bo n ⟨es++[mG k j l m c],[]⟩∧am S W (d.setCell ⟨g,0,U⟩ (Z (M ⟨b,0,U⟩) (es.length+1) f)):=by
 obtain⟨u,v,w⟩:=h.e.y;refine⟨cT u,v,fun b f d k j l m c o x p=>?_⟩;obtain⟨y,q⟩:=w (M ⟨b,0,U⟩) f d (mG k j l m c) ⟨U,0,U,0,U,0⟩ (fun _=>False) _ rfl ⟨js.a _ _,dL.j _ _,dL.j _ _⟩ ⟨rfl,rfl⟩ (fun _ _ e=>e) o x (by
  rcases p with e | e
  . exact A e.symm
  . exact R (by rw[e];rfl))
 have z:=h.a;have t:=q.y h.c (fun e=>e.1.2 rfl);have r:am (fun i=>i=g) d (d.setCell ⟨g,0,U⟩ (Z (M ⟨b,0,U⟩) (es.length+1) f)):=am.r (fun i=>i=g) d ⟨g,0,U⟩ _ rfl;refine⟨t,⟨?_,?_,?_,fun a e=>⟨A (h.b a e).1,(h.b a e).2⟩,A h.d⟩,(q.j (fun i e=>e.1.1)).a (r.j (S':=S) (fun i e=>by subst e;exact h.d)) (fun _ e _=>e)⟩
 . rw[aP d g 0 _ _ _ t];show M (Obj.cells #[Z (M ⟨b,0,U⟩) (es.length+1) f,Z bo 0 n] _ _)=M (Obj.cells #[Z (M ⟨b,0,U⟩) (es++[mG k j l m c]).length f,Z bo 0 n] _ _);rw[aD];rfl
 . have B:jt d (fun i=>(ay S W i∧i≠g)∧aw bo≠M i) 98 (M ⟨b,0,U⟩) f (es++[mG k j l m c]):=y.a (fun i _ e=>by
    rcases e with e | e | e
    . exact⟨⟨A e.1.1,e.1.2⟩,e.2⟩
    . exact e.elim
    . refine⟨⟨R e,by omega⟩,fun s=>?_⟩;cases bo with
      | none=>cases s
      | some a=>injection s with s;have:=(h.f.a a rfl).2;omega)
   exact B.f r (fun i e=>e.1.2)
 . exact(h.f.j q (fun a e k=>k.2 (by rw[e];rfl))).j r (fun a e=>(h.b a e).2)
theorem E0 {w W c W' b:X}{S:Nat->Prop}{g:Nat}{t:dI}{ao bo:ag}{cap j:Nat}(d:Below w.heap.size w W)(f:am (fun i=>S i∧i<w.heap.size) W c)(a:Below c.heap.size c W')(l:fU b (ay (ay (fun i=>S i∧i<w.heap.size) W) W') g ao cap bo j t)(m:am (ay (fun i=>S i∧i<w.heap.size) W) W' b):ej b (ay S w) g t∧am S w b:=by
 have n:=d.size;have o:=f.b;have p:=a.size
 refine⟨⟨_,_,_,_,l.y (fun k _ e=>?_)⟩,?_⟩
 . rcases e with e | e
   . rcases e with e | e
     . exact A e.1
     . exact R (by omega)
   . exact R (by omega)
 . refine(((am.f (S:=S) d).a (f.j (S':=S) (fun i e=>e.1)) (fun _ e _=>e)).a (am.f (S:=S) a) (fun _ e _=>e)).a m (fun i e q=>?_);rcases e with e | e
   . exact e.1
   . omega
theorem yt (w:X)(S:Nat->Prop)(g:Nat)(t:dI)(k:Int)(d f l:ae)(c:Int)(h:ej w S g t)(hk:k≠2)(hl:t.b.length<=90000):
 Calls prog 321 #[Q (M ⟨g,0,U⟩),.agg #[I J k,V ⟨#[]⟩,V ⟨#[]⟩,I J 0,Z U 0 0,I J 0,Z U 0 0,V d,V f,V l,Z U 0 0,I J c]] w fun e w'=>e=Y (.tuple #[])∧ej w' (ay S w) g (nK t (mG k d f l c))∧am S w w':=by
 have HE:Hid (nK t (mG k d f l c)=⟨fE t++[mG k d f l c],[]⟩):=by unfold Hid nK;exact if_neg hk
 have hfl:(fE t).length<=90001:=by
  unfold fE ic;rw[aD];split <;> simp <;> omega
 have HA:∀W,ej W (fun i=>S i∧i<w.heap.size) g t->Calls prog 322 #[Q (M ⟨g,0,U⟩)] W fun e w'=>∃D p bo bc,e=Y (Z D (fE t).length p)∧fU w' (ay (fun i=>S i∧i<w.heap.size) W) g D p bo bc ⟨fE t,[]⟩∧am (fun i=>S i∧i<w.heap.size) W w':=fun W hW=>Ei W _ g t hW (by omega);have h0:ej w (fun i=>S i∧i<w.heap.size) g t:=h.f (fun i hi e=>⟨e,hi⟩);have G:Below w.heap.size w (w.alloc (K #[I J k,V ⟨#[]⟩,V ⟨#[]⟩,I J 0,Z U 0 0,I J 0,Z U 0 0,V d,V f,V l,Z U 0 0,I J c] 98)).drew:=((ar _ w).alloc (ak _) _).trans (bj _ _);have H:Below w.heap.size w ((w.alloc (K #[I J k,V ⟨#[]⟩,V ⟨#[]⟩,I J 0,Z U 0 0,I J 0,Z U 0 0,V d,V f,V l,Z U 0 0,I J c] 98)).alloc (K #[I J k,V ⟨#[]⟩,V ⟨#[]⟩,I J 0,Z U 0 0,I J 0,Z U 0 0,V d,V f,V l,Z U 0 0,I J c] 98)).drew:=(((ar _ w).alloc (ak _) _).alloc (by rw[bF];omega) _).trans (bj _ _);have HT1:=(h0.j G);have HT2:=aa (h0.j H)
 have HMe:S g:=by obtain⟨_,_,_,_,h⟩:=h;exact h.d
 have HB1:=G;have HB2:=aa H
 have ZN:∀a,am (fun i=>S i∧i<w.heap.size) (w.alloc (K #[I J k,V ⟨#[]⟩,V ⟨#[]⟩,I J 0,Z U 0 0,I J 0,Z U 0 0,V d,V f,V l,Z U 0 0,I J c] 98)).drew a->a.heap[w.heap.size]? = M (K #[I J k,V ⟨#[]⟩,V ⟨#[]⟩,I J 0,Z U 0 0,I J 0,Z U 0 0,V d,V f,V l,Z U 0 0,I J c] 98 (0,0)):=fun a r=>r.y (aX w _) (fun e=>by have:=e.2;omega);have RN:∀a,am (fun i=>S i∧i<w.heap.size) ((w.alloc (K #[I J k,V ⟨#[]⟩,V ⟨#[]⟩,I J 0,Z U 0 0,I J 0,Z U 0 0,V d,V f,V l,Z U 0 0,I J c] 98)).alloc (K #[I J k,V ⟨#[]⟩,V ⟨#[]⟩,I J 0,Z U 0 0,I J 0,Z U 0 0,V d,V f,V l,Z U 0 0,I J c] 98)).drew a->∀j u,((mG k d f l c).f ⟨U,0,U,0,U,0⟩)[j]? = M u->a.cell? (Addr.add ⟨w.heap.size+1,0,U⟩ j)=M u:=fun a r j u hu=>by
  have h1:((w.alloc (K #[I J k,V ⟨#[]⟩,V ⟨#[]⟩,I J 0,Z U 0 0,I J 0,Z U 0 0,V d,V f,V l,Z U 0 0,I J c] 98)).alloc (K #[I J k,V ⟨#[]⟩,V ⟨#[]⟩,I J 0,Z U 0 0,I J 0,Z U 0 0,V d,V f,V l,Z U 0 0,I J c] 98)).drew.heap[w.heap.size+1]? = M (K #[I J k,V ⟨#[]⟩,V ⟨#[]⟩,I J 0,Z U 0 0,I J 0,Z U 0 0,V d,V f,V l,Z U 0 0,I J c] 98 (0,0)):=by
   have:=aX (w.alloc (K #[I J k,V ⟨#[]⟩,V ⟨#[]⟩,I J 0,Z U 0 0,I J 0,Z U 0 0,V d,V f,V l,Z U 0 0,I J c] 98)) (K #[I J k,V ⟨#[]⟩,V ⟨#[]⟩,I J 0,Z U 0 0,I J 0,Z U 0 0,V d,V f,V l,Z U 0 0,I J c] 98);rw[bF] at this;exact this
  have h2:=r.y h1 (fun e=>by have:=e.2;omega);rw[ge,ee,aq a (w.heap.size+1) j _ _ _ h2,mD];exact hu
 have HX3:∀(a:X) j u,((mG k d f l c).f ⟨U,0,U,0,U,0⟩)[j]? = M u->(a.alloc (K #[I J k,V ⟨#[]⟩,V ⟨#[]⟩,I J 0,Z U 0 0,I J 0,Z U 0 0,V d,V f,V l,Z U 0 0,I J c] 98)).cell? (Addr.add ⟨a.heap.size,0,U⟩ j)=M u:=fun a j u hu=>by
  rw[ge,ee,World.cell?_alloc_at _ _ _ _ rfl,mD];exact hu
 obtain⟨i0,hi0,hz0,hz1,hz2⟩:=info_parts EZ;have Hi:=hi0;have lg:=aa hz0;have kZ:=aa hz1;have lq:=aa hz2
 have L:(fE t).length+1<=maxLen∧((fE t).length+1)*184<=140737488355328:=⟨by unfold maxLen;omega,by omega⟩;generalize (fE t)=fl at *;obtain⟨n,z⟩:∃n,fl.length=n:=⟨_,rfl⟩;rw[z] at HA L;go_enter func321,ntmps321;go_wp2;go_region_law (first
  | (go_simp;go_at_call 322;refine(HA _ HT1).mono ?_;rintro e a ⟨D,p,bo,bc,rfl,N,r⟩;have q:=ZN _ r;have x0:a.cell? ⟨w.heap.size,0,U⟩=_:=aq a _ 0 _ _ _ q;have x1:a.cell? ⟨w.heap.size,1,U⟩=_:=aq a _ 1 _ _ _ q;have x2:a.cell? ⟨w.heap.size,2,U⟩=_:=aq a _ 2 _ _ _ q;have x3:a.cell? ⟨w.heap.size,3,U⟩=_:=aq a _ 3 _ _ _ q;have x4:a.cell? ⟨w.heap.size,4,U⟩=_:=aq a _ 4 _ _ _ q;have x5:a.cell? ⟨w.heap.size,5,U⟩=_:=aq a _ 5 _ _ _ q;have x6:a.cell? ⟨w.heap.size,6,U⟩=_:=aq a _ 6 _ _ _ q;have x7:a.cell? ⟨w.heap.size,7,U⟩=_:=aq a _ 7 _ _ _ q;have x8:a.cell? ⟨w.heap.size,8,U⟩=_:=aq a _ 8 _ _ _ q;have x9:a.cell? ⟨w.heap.size,9,U⟩=_:=aq a _ 9 _ _ _ q;have x10:a.cell? ⟨w.heap.size,10,U⟩=_:=aq a _ 10 _ _ _ q;have x11:a.cell? ⟨w.heap.size,11,U⟩=_:=aq a _ 11 _ _ _ q;simp only[mD,List.getElem?_cons_zero,List.getElem?_cons_succ] at x0 x1 x2 x3 x4 x5 x6 x7 x8 x9 x10 x11;have HT:=aa r;obtain⟨xs,s,v⟩:=(N.G ((ar _ _).alloc (ak _) (K #[I J k,V ⟨#[]⟩,V ⟨#[]⟩,I J 0,Z U 0 0,I J 0,Z U 0 0,V d,V f,V l,Z U 0 0,I J c] 98))).B;have V7:=aa s;have B:=aa v;clear r q N s v)
  | (go_simp;go_at_call 322;refine(HA _ HT2.o).mono ?_;rintro e a ⟨D,p,bo,bc,rfl,N,r⟩;have HXc:=aa (RN _ r);have HT:=aa r;obtain⟨xs,s,v⟩:=N.B;have V7:=aa s;have B:=aa v;clear r N s v)
  | (refine step_append_lies _ (by rfl) _ _ _ (by rfl) 0 98 i0 (.agg #[I J 0,V ⟨#[]⟩,V ⟨#[]⟩,I J 0,Z U 0 0,I J 0,Z U 0 0,V ⟨#[]⟩,V ⟨#[]⟩,V ⟨#[]⟩,Z U 0 0,I J 0]) 12 184 underlying58 Hi lg.o kZ.o lq.o (by rfl) (by decide) (Z D n p) n _ (by rfl) (z▸V7.o) ⟨a.heap.size,0,U⟩ 1 1 ((mG k d f l c).f ⟨U,0,U,0,U,0⟩) (by rfl) (by rfl) (HX3 a) (sC _ _) (by decide) L.1 L.2 (ax _) (a.heap.size+1) (by simp) ?_;intro g3 iy x m b C T;rw[dq] at b C;have y:=B.o g3 iy x k d f l c (z.symm▸m) b (by simpa using C);have q0:x.cell? ⟨g,0,U⟩=_:=aq x g 0 _ _ _ y.1;have f0:x.frozen? ⟨g,0,U⟩=false:=aN x g 0 _ _ y.1;rw[z] at q0 y;have HQ:=aa y;clear y b m C)
  | (refine step_append_lies _ (by rfl) _ _ _ (by rfl) 0 98 i0 (.agg #[I J 0,V ⟨#[]⟩,V ⟨#[]⟩,I J 0,Z U 0 0,I J 0,Z U 0 0,V ⟨#[]⟩,V ⟨#[]⟩,V ⟨#[]⟩,Z U 0 0,I J 0]) 12 184 underlying58 Hi lg.o kZ.o lq.o (by rfl) (by decide) (Z D n p) n _ (by rfl) (z▸V7.o) ⟨w.heap.size+1,0,U⟩ 1 1 ((mG k d f l c).f ⟨U,0,U,0,U,0⟩) (by rfl) (by rfl) HXc.o (sC _ _) (by decide) L.1 L.2 (ax _) a.heap.size (by rfl) ?_;intro g3 iy x m b C T;rw[dq] at b C;have y:=B.o g3 iy x k d f l c (z.symm▸m) b (by simpa using C);have q0:x.cell? ⟨g,0,U⟩=_:=aq x g 0 _ _ _ y.1;have f0:x.frozen? ⟨g,0,U⟩=false:=aN x g 0 _ _ y.1;rw[z] at q0 y;have HQ:=aa y;clear y b m C))
 all_goals
  go_wp2;go_end0
  rw[HE.o];first
   | exact⟨rfl,E0 HB1 HT.o ((ar _ _).alloc (ak _) _) HQ.o.2.1 HQ.o.2.2⟩
   | exact⟨rfl,E0 HB2.o HT.o (ar _ _) HQ.o.2.1 HQ.o.2.2⟩
