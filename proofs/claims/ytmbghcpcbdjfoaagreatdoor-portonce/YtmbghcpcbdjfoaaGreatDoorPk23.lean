import Derived.Test.YtmbghcpcbdjfoaaGreatDoorPk22
import Derived.Deep.RegionLaw
import Derived.Deep.AppendLies
open Go.Value renaming int->I,string->V,slice->Z,pointer->Q
open Go.IntKind renaming i64->J
open Go.Obj renaming cells->K
open Go.Ending renaming returned->Y
open Option renaming none->U,some->M
open Or renaming inl->A,inr->R
open Go renaming World->X
set_option maxHeartbeats 4000000
set_option maxRecDepth 100000
open Go.Proofs.Tryz
namespace Go.Proofs.YtmbghcpcbdjfoaaGreatDoor
open Go.RowKit
theorem Fx:(prog.info? 98).map (fun i=>(i.zero,i.size,i.bytes))=M (M (.agg #[I J 0,V ⟨#[]⟩,V ⟨#[]⟩,I J 0,Z U 0 0,I J 0,Z U 0 0,V ⟨#[]⟩,V ⟨#[]⟩,V ⟨#[]⟩,Z U 0 0,I J 0]),12,184):=by kernel_rfl
theorem SV {c:X}{S:Nat->Prop}{g:Nat}{x y:Value}{gQ:ai}{b n:Nat}{es:List az}(f:c.heap[g]? = M (K #[x,y] 312 (0,0)))(i:S g)(ha:jA c (fun k=>S k∧k≠g) 98 gQ b es)(j:n=es.length):
 gy ((c.setCell ⟨g,0,U⟩ (Z gQ n b)).setCell ⟨g,1,U⟩ (Z U 0 0)) S g gQ b U 0 ⟨es,[]⟩∧al (fun k=>k=g) c ((c.setCell ⟨g,0,U⟩ (Z gQ n b)).setCell ⟨g,1,U⟩ (Z U 0 0)):=by
 subst j;have d:al (fun k=>k=g) c ((c.setCell ⟨g,0,U⟩ (Z gQ es.length b)).setCell ⟨g,1,U⟩ (Z U 0 0)):=(al.f (fun k=>k=g) c ⟨g,0,U⟩ _ rfl).a (al.f (fun k=>k=g) _ ⟨g,1,U⟩ _ rfl) (fun _ e _=>e);refine⟨⟨?_,?_,bC.e _ _ _,fun a e=>(by cases e),i⟩,d⟩
 . have l:(c.setCell ⟨g,0,U⟩ (Z gQ es.length b)).heap[g]? = M (K #[Z gQ es.length b,y] 312 (0,0)):=by rw[aQ c g 0 _ _ _ f];rfl
   rw[aQ _ g 1 _ _ _ l];rfl
 . exact(ha.d d (fun k e=>e.2)).a (fun k _ e=>⟨e,by simp[au]⟩)
theorem OZ (w:X)(S:Nat->Prop)(g:Nat)(ao:ai)(cap:Nat)(bo:ai)(a:Nat)(es:List az)(h:gy w S g ao cap bo a ⟨es,[]⟩):
 Calls prog 278 #[Q (M ⟨g,0,U⟩)] w fun e w'=>e=Y (Z ao es.length cap)∧w'=w:=by
 have b:=h.j;have c:=h.q;generalize es.length=n at *;go_enter func278,ntmps278;go_wp2;go_ret;exact⟨rfl,rfl⟩
theorem O2 (w:X)(S:Nat->Prop)(g:Nat)(ao:ai)(cap:Nat)(bo:ai)(c n nb:Nat)(t:dL)(h:gy w S g ao cap bo c t)(hb:t.a≠[])(x:t.b.length=n)(hl:n<=100000)(i:t.a.length=nb):
 Calls prog 278 #[Q (M ⟨g,0,U⟩)] w fun e w'=>∃gQ m,e=Y (Z gQ (n+1) m)∧gy w' (aB S w) g gQ m U 0 ⟨t.b++[dW t.a],[]⟩∧al S w w':=by
 have c0:=x▸h.j;have c1:=i▸h.q;have hnp:0<nb:=by rw[<-i];exact kH.2 hb
 have t0:=aV (by omega);obtain⟨ps,L,N⟩:=h.e.r (K #[I J 2,V ⟨#[]⟩,V ⟨#[]⟩,I J 0,Z U 0 0,I J 0,Z bo nb c,V ⟨#[]⟩,V ⟨#[]⟩,V ⟨#[]⟩,Z U 0 0,I J 0] 98);rw[x] at L N;have y:∀k,au ao=M k->(S k∧k≠g)∧au bo≠M k:=fun k e=>by
  obtain⟨_,_,_,hm,_⟩:=h.e;cases ao with
  | none=>cases e
  | some a=>injection e with e;subst e;exact hm a rfl
 have HK:∀z,(w.alloc (K #[I J 2,V ⟨#[]⟩,V ⟨#[]⟩,I J 0,Z U 0 0,I J 0,Z bo nb c,V ⟨#[]⟩,V ⟨#[]⟩,V ⟨#[]⟩,Z U 0 0,I J 0] 98)).drew.grownBy z (Value.slice ao n cap).ownBlock->z.heap[g]? = M (K #[Z ao n cap,Z bo nb c] 312 (0,0)):=fun z s=>by
  rw[dI] at s;have T:=((aq _ w).alloc (ak _) (K #[I J 2,V ⟨#[]⟩,V ⟨#[]⟩,I J 0,Z U 0 0,I J 0,Z bo nb c,V ⟨#[]⟩,V ⟨#[]⟩,V ⟨#[]⟩,Z U 0 0,I J 0] 98)).block g h.a;have W:=s.block g (by show g<(w.alloc _).heap.size;rw[ch];have:=h.a;omega) (fun e=>(y g e.symm).1.2 rfl);have l:=h.c;rw[x,i] at l;exact W.trans (T.trans l)
 have jm:=(aq _ w).alloc (ak _) (K #[I J 2,V ⟨#[]⟩,V ⟨#[]⟩,I J 0,Z U 0 0,I J 0,Z bo nb c,V ⟨#[]⟩,V ⟨#[]⟩,V ⟨#[]⟩,Z U 0 0,I J 0] 98);have c0a:=(jm.cell (p:=⟨g,0,U⟩) h.a).trans c0;have c1a:=(jm.cell (p:=⟨g,1,U⟩) h.a).trans c1;have HO:=aG.r L (bA _ _);have VZ:∀j u,((dW t.a).d ⟨U,0,bo,c,U,0⟩)[j]? = M u->(w.alloc (K #[I J 2,V ⟨#[]⟩,V ⟨#[]⟩,I J 0,Z U 0 0,I J 0,Z bo nb c,V ⟨#[]⟩,V ⟨#[]⟩,V ⟨#[]⟩,Z U 0 0,I J 0] 98)).drew.cell? (Addr.add ⟨w.heap.size,0,U⟩ j)=M u:=fun j u hu=>by
  rw[ga,dV];show(w.alloc _).cell? _=_;rw[World.cell?_alloc_at _ _ _ _ rfl,<-i,mS];exact hu
 have B:eI w (fun k=>au bo=M k) (dW t.a) ⟨U,0,bo,c,U,0⟩:=⟨jz.a _ _,⟨h.f.a,fun _ a e=>by have e:bo=M a:=e;rw[e];rfl⟩,dO.e _ _⟩;obtain⟨i0,C,D,G,H⟩:=info_parts Fx;have Hi:=C;have kT:=aa D;have kL:=aa G;have kU:=aa H
 have HN:n+1<=maxLen∧(n+1)*184<=140737488355328:=⟨by unfold maxLen;omega,by omega⟩;go_enter func278,ntmps278;go_wp2;go_region_law
  ((refine step_append_lies _ (by rfl) _ _ _ (by rfl) 0 98 i0 (.agg #[I J 0,V ⟨#[]⟩,V ⟨#[]⟩,I J 0,Z U 0 0,I J 0,Z U 0 0,V ⟨#[]⟩,V ⟨#[]⟩,V ⟨#[]⟩,Z U 0 0,I J 0]) 12 184 underlying58 Hi kT.o kL.o kU.o (by rfl) (by decide) (Z ao n cap) n _ (by rfl) HO ⟨w.heap.size,0,U⟩ 1 1 ((dW t.a).d ⟨U,0,bo,c,U,0⟩) (by rfl) (by rfl) VZ (rD _ _) (by decide) HN.1 HN.2 (ax _) (w.heap.size+1) (by simp) ?_;intro g3 iq f d b kr hlt3;have l:=HK _ b;have q0:f.cell? ⟨g,0,U⟩=M (Z ao n cap):=am f g 0 _ _ _ l;have q1:f.cell? ⟨g,1,U⟩=M (Z bo nb c):=am f g 1 _ _ _ l;have f0:f.frozen? ⟨g,0,U⟩=false:=aD f g 0 _ _ l;have f1:f.frozen? ⟨g,1,U⟩=false:=aD f g 1 _ _ l;have q:=aa l;have Av:=aa b;have sG:=aa d;have Lc:=aa kr;clear b d kr l))
 all_goals
  go_wp2;go_ret;have s:=Av.o;have v:=Lc.o;rw[dI] at s v;obtain⟨r1,r2⟩:=N (M ⟨g3,0,U⟩) iq f (dW t.a) ⟨U,0,bo,c,U,0⟩ (fun k=>au bo=M k) _ rfl B ⟨rfl,rfl⟩ (fun k e=>e.2) sG.o (oF (wM _ _) s) (by
   rcases v with e | e
   . exact A e.symm
   . exact R (by rw[ch,e];rfl))
  have hlt:=h.a;have r3:jA f (fun k=>aB S w k∧k≠g) 98 (M ⟨g3,0,U⟩) iq (t.b++[dW t.a]):=r1.a (fun k _ e=>by
   rcases e with e | e | e
   . exact⟨A e.1.1,e.1.2⟩
   . cases bo with
     | none=>cases e
     | some a=>injection e with e;subst e;exact⟨A (h.b a rfl).1,(h.b a rfl).2⟩
   . exact⟨R e,by omega⟩)
  have r4:=SV q.o (S:=aB S w) (A h.d) r3 (n:=n+1) (by rw[aF];exact mg (·+1) (by obtain⟨qs,hq,hw,_⟩:=h.e;have T:=h.c;have W:=q.o;have:=h.j;have h4:=q0;exact(by
   have r:=r2.j h.c (fun e=>e.1.2 rfl);rw[q.o] at r;injection r with r;injection r with r;have:=mg (fun a:Array Value=>a[0]?) r;simpa using this)))
  exact⟨_,_,rfl,r4.1,(r2.e (fun k e=>e.1.1)).a (r4.2.e (S':=S) (fun k e=>by subst e;exact h.d)) (fun _ e _=>e)⟩
theorem Sj {w c:X}{S:Nat->Prop}{g:Nat}{ao bo d:ai}{cap r b n:Nat}{t:dL}{l:ae}(h:gy w S g ao cap bo r t)(s:bC c 0 5 d b (t.a++l))(u:w.grownBy c (au bo))(f:au d=au bo∨au d=M w.heap.size)(v:n=(t.a++l).length):
 gy (c.setCell ⟨g,1,U⟩ (Z d n b)) (aB S w) g ao cap d b ⟨t.b,t.a++l⟩∧al S w (c.setCell ⟨g,1,U⟩ (Z d n b)):=by
 subst v;have x:=h.a;have i:=al.q u (fun k e=>e);have j:∀k,au bo=M k->S k∧k≠g:=fun k e=>by
  cases bo with
  | none=>cases e
  | some a=>injection e with e;subst e;exact h.b a rfl
 have y:=i.j h.c (fun e=>(j g e).2 rfl);have q:al (fun k=>k=g) c (c.setCell ⟨g,1,U⟩ (Z d (t.a++l).length b)):=al.f (fun k=>k=g) c ⟨g,1,U⟩ _ rfl;have o:∀a,d=M a->aB S w a.block∧a.block≠g:=fun a e=>by
  rw[e] at f;rcases f with m | m
  . have:=j a.block m.symm;exact⟨A this.1,this.2⟩
  . injection m with m;exact⟨R (by omega),by omega⟩
 refine⟨⟨?_,?_,s.f q (fun a e=>(o a e).2),o,A h.d⟩,(i.e (fun k e=>(j k e).1)).a (q.e (S':=S) (fun k e=>by subst e;exact h.d)) (fun _ e _=>e)⟩
 . rw[aQ c g 1 _ _ _ y];rfl
 . have z:=(h.e.a (S':=fun k=>((S k∧k≠g)∧au bo≠M k)∧k<w.heap.size) (fun k B e=>⟨e,B⟩)).d i (fun k e=>e.1.2);refine(z.d q (fun k e=>e.1.1.2)).a (fun k _ e=>⟨⟨A e.1.1.1,e.1.1.2⟩,fun m=>?_⟩);rcases f with p | p
   . exact e.1.2 (p.symm.trans m)
   . rw[m] at p;injection p with p;have:=e.2;omega
theorem Mj (w:X)(S:Nat->Prop)(g:Nat)(t:dL)(s:ai)(u m:Nat)(l:ae)(h:eA w S g t)(H:ay w s u l)(L:l.length=m)(N:t.a.length+m<=1000000):
 Calls prog 338 #[Q (M ⟨g,0,U⟩),Z s m u] w fun e w'=>e=Y (.tuple #[])∧eA w' (aB S w) g ⟨t.b,t.a++l⟩∧al S w w':=by
 obtain⟨ao,T,j,W,h⟩:=h;obtain⟨nb,c⟩:∃nb,t.a.length=nb:=⟨_,rfl⟩;have c1:=c▸h.q;have v:=h;have HS:=aa H;have x:=aa L;have y:=aa c
 have d:au j≠M g:=fun e=>by
  cases j with
  | none=>cases e
  | some a=>injection e with e;exact(h.b a rfl).2 e
 have z:∀f,w.grownBy f (au j)->f.cell? ⟨g,1,U⟩=M (Z j nb W)∧f.frozen? ⟨g,1,U⟩=false:=fun f B=>by
  have h1:=B.block g h.a (fun e=>d e.symm);have h2:=h1.trans h.c;exact⟨(B.cell c1 (fun e=>d e.symm)),aD f g 1 _ _ h2⟩
 rw[c] at N;obtain⟨i0,k,p,q,r⟩:=info_parts il;have Hi:=k;have kT:=aa p;have kL:=aa q;have kU:=aa r
 go_enter func338,ntmps338;go_wp2_with (at_builtin;refine tR rfl (.tmp 8) (.tmp 9) 31 rfl 0 5 i0 underlying31 Hi kT.o kL.o kU.o (l:=t.a) (l2:=l) rfl y.o v.f rfl x.o HS.o (by omega) (ax _) ?_;intro lu iq C i b D;have q1:=(z C b).1;have qf:=(z C b).2;have sG:=aa i;have Av:=aa b;have Lc:=aa D;clear i b D)
 have G:=Sj v sG.o Av.o Lc.o (n:=nb+m) (by rw[aF,y.o,x.o]);go_end0
 exact⟨rfl,⟨_,_,_,_,G.1⟩,G.2⟩
def na (k:Int)(pn pf pt:ag)(c:Int):az:=⟨k,⟨#[]⟩,⟨#[]⟩,0,[],0,[],pn,pf,pt,[],c⟩
theorem Fe (w:X)(S:Nat->Prop)(g:Nat)(t:dL)(h:eA w S g t)(i:t.b.length<=100000):
 Calls prog 278 #[Q (M ⟨g,0,U⟩)] w fun e w'=>∃ao cap bo a,e=Y (Z ao (fT t).length cap)∧gy w' (aB S w) g ao cap bo a ⟨fT t,[]⟩∧al S w w':=by
 obtain⟨ao,cap,bo,a,h⟩:=h;obtain⟨es,bs⟩:=t;by_cases c:bs=[]
 . subst c;have d:fT ⟨es,[]⟩=es:=by unfold fT iv;simp
   rw[d];refine(OZ w S g ao cap bo a es h).mono ?_;rintro e w' ⟨f,j⟩;subst j;exact⟨ao,cap,bo,a,f,h.r (fun k _ e=>A e),al.r _ _⟩
 . have d:fT ⟨es,bs⟩=es++[dW bs]:=by unfold fT iv;simp[c]
   rw[d];refine(O2 w S g ao cap bo a es.length bs.length ⟨es,bs⟩ h c rfl i rfl).mono ?_;rintro e w' ⟨l,b,f,m,n⟩;exact⟨l,b,U,0,by rw[f];simp,m,n⟩
theorem jA.j {W:X}{S:Nat->Prop}{d:Nat}{ao:ai}{cap:Nat}{es:List az}(h:jA W S d ao cap es):∃f:List (az×cJ),aG W 0 d 12 ao cap es.length (cB f) ∧
 ∀gQ b w' (e:az) s (N:Nat->Prop) g,e.d s=g->eI W N e s->s.d=U∧s.c=0->(∀k,S k->¬N k)->aG w' 0 d 12 gQ b (es.length+1) (cB f++g)->W.grownBy w' (au ao)->(au gQ=au ao∨au gQ=M W.heap.size)->jA w' (fun k=>S k∨N k∨W.heap.size<=k) d gQ b (es++[e])∧al S W w':=by
 obtain⟨f,c,q,m,r,t⟩:=h;refine⟨f,q,fun gQ b w' e s N g u v i w n o j=>?_⟩;subst u;have x:cB [(e,s)]=e.d s:=by simp[cB]
 rw[<-x] at n;have:=jA.e (N:=N) m r (ps2:=[(e,s)]) (fun p l=>by rw[cD.1 l];exact v) w n (by rw[<-c,ij];rfl) o j t (fun p l=>by rw[cD.1 l];exact i);refine⟨?_,al.q (S:=S) o (fun k e=>?_)⟩
 . rw[c] at this;refine this.a (fun k y e=>?_);rcases e with e | e | e
   . exact A e
   . exact R (A e)
   . exact R (R (by omega))
 . cases ao with
   | none=>cases e
   | some a=>injection e with e;subst e;exact m a rfl
theorem gy.y {W:X}{S:Nat->Prop}{g:Nat}{ao bo:ai}{cap n:Nat}{es:List az}(h:gy W S g ao cap bo n ⟨es,[]⟩):∃xs,aG W 0 98 12 ao cap es.length xs ∧
 ∀b f d k j l m c, aG d 0 98 12 (M ⟨b, 0, U⟩) f (es.length + 1) (xs ++ (na k j l m c).d ⟨U, 0, U, 0, U, 0⟩) -> W.grownBy d (au ao) -> (au ao = M b ∨ b = W.heap.size) ->
   d.heap[g]? = M (K #[Z ao es.length cap,Z bo 0 n] 312 (0,0))∧gy (d.setCell ⟨g,0,U⟩ (Z (M ⟨b,0,U⟩) (es.length+1) f)) (aB S W) g (M ⟨b,0,U⟩) f bo n ⟨es++[na k j l m c],[]⟩∧al S W (d.setCell ⟨g,0,U⟩ (Z (M ⟨b,0,U⟩) (es.length+1) f)):=by
 obtain⟨u,v,w⟩:=h.e.j;refine⟨cB u,v,fun b f d k j l m c o x p=>?_⟩;obtain⟨y,q⟩:=w (M ⟨b,0,U⟩) f d (na k j l m c) ⟨U,0,U,0,U,0⟩ (fun _=>False) _ rfl ⟨jz.a _ _,dO.e _ _,dO.e _ _⟩ ⟨rfl,rfl⟩ (fun _ _ e=>e) o x (by
  rcases p with e | e
  . exact A e.symm
  . exact R (by rw[e];rfl))
 have z:=h.a;have t:=q.j h.c (fun e=>e.1.2 rfl);have r:al (fun i=>i=g) d (d.setCell ⟨g,0,U⟩ (Z (M ⟨b,0,U⟩) (es.length+1) f)):=al.f (fun i=>i=g) d ⟨g,0,U⟩ _ rfl;refine⟨t,⟨?_,?_,?_,fun a e=>⟨A (h.b a e).1,(h.b a e).2⟩,A h.d⟩,(q.e (fun i e=>e.1.1)).a (r.e (S':=S) (fun i e=>by subst e;exact h.d)) (fun _ e _=>e)⟩
 . rw[aQ d g 0 _ _ _ t];show M (Obj.cells #[Z (M ⟨b,0,U⟩) (es.length+1) f,Z bo 0 n] _ _)=M (Obj.cells #[Z (M ⟨b,0,U⟩) (es++[na k j l m c]).length f,Z bo 0 n] _ _);rw[aF];rfl
 . have B:jA d (fun i=>(aB S W i∧i≠g)∧au bo≠M i) 98 (M ⟨b,0,U⟩) f (es++[na k j l m c]):=y.a (fun i _ e=>by
    rcases e with e | e | e
    . exact⟨⟨A e.1.1,e.1.2⟩,e.2⟩
    . exact e.elim
    . refine⟨⟨R e,by omega⟩,fun s=>?_⟩;cases bo with
      | none=>cases s
      | some a=>injection s with s;have:=(h.f.d a rfl).2;omega)
   exact B.d r (fun i e=>e.1.2)
 . exact(h.f.f q (fun a e k=>k.2 (by rw[e];rfl))).f r (fun a e=>(h.b a e).2)
theorem Fy {w W c W' b:X}{S:Nat->Prop}{g:Nat}{t:dL}{ao bo:ai}{cap j:Nat}(d:Below w.heap.size w W)(f:al (fun i=>S i∧i<w.heap.size) W c)(a:Below c.heap.size c W')(l:gy b (aB (aB (fun i=>S i∧i<w.heap.size) W) W') g ao cap bo j t)(m:al (aB (fun i=>S i∧i<w.heap.size) W) W' b):eA b (aB S w) g t∧al S w b:=by
 have n:=d.size;have o:=f.b;have p:=a.size
 refine⟨⟨_,_,_,_,l.r (fun k _ e=>?_)⟩,?_⟩
 . rcases e with e | e
   . rcases e with e | e
     . exact A e.1
     . exact R (by omega)
   . exact R (by omega)
 . refine(((al.d (S:=S) d).a (f.e (S':=S) (fun i e=>e.1)) (fun _ e _=>e)).a (al.d (S:=S) a) (fun _ e _=>e)).a m (fun i e q=>?_);rcases e with e | e
   . exact e.1
   . omega
theorem zk (w:X)(S:Nat->Prop)(g:Nat)(t:dL)(k:Int)(d f l:ag)(c:Int)(h:eA w S g t)(hk:k≠2)(hl:t.b.length<=90000):
 Calls prog 277 #[Q (M ⟨g,0,U⟩),.agg #[I J k,V ⟨#[]⟩,V ⟨#[]⟩,I J 0,Z U 0 0,I J 0,Z U 0 0,V d,V f,V l,Z U 0 0,I J c]] w fun e w'=>e=Y (.tuple #[])∧eA w' (aB S w) g (oc t (na k d f l c))∧al S w w':=by
 have HE:Hid (oc t (na k d f l c)=⟨fT t++[na k d f l c],[]⟩):=by unfold Hid oc;exact if_neg hk
 have hfl:(fT t).length<=90001:=by
  unfold fT iv;rw[aF];split <;> simp <;> omega
 have HA:∀W,eA W (fun i=>S i∧i<w.heap.size) g t->Calls prog 278 #[Q (M ⟨g,0,U⟩)] W fun e w'=>∃D p bo bc,e=Y (Z D (fT t).length p)∧gy w' (aB (fun i=>S i∧i<w.heap.size) W) g D p bo bc ⟨fT t,[]⟩∧al (fun i=>S i∧i<w.heap.size) W w':=fun W hW=>Fe W _ g t hW (by omega);have h0:eA w (fun i=>S i∧i<w.heap.size) g t:=h.d (fun i hi e=>⟨e,hi⟩);have G:Below w.heap.size w (w.alloc (K #[I J k,V ⟨#[]⟩,V ⟨#[]⟩,I J 0,Z U 0 0,I J 0,Z U 0 0,V d,V f,V l,Z U 0 0,I J c] 98)).drew:=((aq _ w).alloc (ak _) _).trans (bA _ _);have H:Below w.heap.size w ((w.alloc (K #[I J k,V ⟨#[]⟩,V ⟨#[]⟩,I J 0,Z U 0 0,I J 0,Z U 0 0,V d,V f,V l,Z U 0 0,I J c] 98)).alloc (K #[I J k,V ⟨#[]⟩,V ⟨#[]⟩,I J 0,Z U 0 0,I J 0,Z U 0 0,V d,V f,V l,Z U 0 0,I J c] 98)).drew:=(((aq _ w).alloc (ak _) _).alloc (by rw[ch];omega) _).trans (bA _ _);have HT1:=(h0.e G);have HT2:=aa (h0.e H)
 have HMe:S g:=by obtain⟨_,_,_,_,h⟩:=h;exact h.d
 have HB1:=G;have HB2:=aa H
 have XM:∀a,al (fun i=>S i∧i<w.heap.size) (w.alloc (K #[I J k,V ⟨#[]⟩,V ⟨#[]⟩,I J 0,Z U 0 0,I J 0,Z U 0 0,V d,V f,V l,Z U 0 0,I J c] 98)).drew a->a.heap[w.heap.size]? = M (K #[I J k,V ⟨#[]⟩,V ⟨#[]⟩,I J 0,Z U 0 0,I J 0,Z U 0 0,V d,V f,V l,Z U 0 0,I J c] 98 (0,0)):=fun a r=>r.j (bw w _) (fun e=>by have:=e.2;omega);have ZI:∀a,al (fun i=>S i∧i<w.heap.size) ((w.alloc (K #[I J k,V ⟨#[]⟩,V ⟨#[]⟩,I J 0,Z U 0 0,I J 0,Z U 0 0,V d,V f,V l,Z U 0 0,I J c] 98)).alloc (K #[I J k,V ⟨#[]⟩,V ⟨#[]⟩,I J 0,Z U 0 0,I J 0,Z U 0 0,V d,V f,V l,Z U 0 0,I J c] 98)).drew a->∀j u,((na k d f l c).d ⟨U,0,U,0,U,0⟩)[j]? = M u->a.cell? (Addr.add ⟨w.heap.size+1,0,U⟩ j)=M u:=fun a r j u hu=>by
  have h1:((w.alloc (K #[I J k,V ⟨#[]⟩,V ⟨#[]⟩,I J 0,Z U 0 0,I J 0,Z U 0 0,V d,V f,V l,Z U 0 0,I J c] 98)).alloc (K #[I J k,V ⟨#[]⟩,V ⟨#[]⟩,I J 0,Z U 0 0,I J 0,Z U 0 0,V d,V f,V l,Z U 0 0,I J c] 98)).drew.heap[w.heap.size+1]? = M (K #[I J k,V ⟨#[]⟩,V ⟨#[]⟩,I J 0,Z U 0 0,I J 0,Z U 0 0,V d,V f,V l,Z U 0 0,I J c] 98 (0,0)):=by
   have:=bw (w.alloc (K #[I J k,V ⟨#[]⟩,V ⟨#[]⟩,I J 0,Z U 0 0,I J 0,Z U 0 0,V d,V f,V l,Z U 0 0,I J c] 98)) (K #[I J k,V ⟨#[]⟩,V ⟨#[]⟩,I J 0,Z U 0 0,I J 0,Z U 0 0,V d,V f,V l,Z U 0 0,I J c] 98);rw[ch] at this;exact this
  have h2:=r.j h1 (fun e=>by have:=e.2;omega);rw[ga,dV,am a (w.heap.size+1) j _ _ _ h2,mS];exact hu
 have HX3:∀(a:X) j u,((na k d f l c).d ⟨U,0,U,0,U,0⟩)[j]? = M u->(a.alloc (K #[I J k,V ⟨#[]⟩,V ⟨#[]⟩,I J 0,Z U 0 0,I J 0,Z U 0 0,V d,V f,V l,Z U 0 0,I J c] 98)).cell? (Addr.add ⟨a.heap.size,0,U⟩ j)=M u:=fun a j u hu=>by
  rw[ga,dV,World.cell?_alloc_at _ _ _ _ rfl,mS];exact hu
 obtain⟨i0,hi0,hz0,hz1,hz2⟩:=info_parts Fx;have Hi:=hi0;have kT:=aa hz0;have kL:=aa hz1;have kU:=aa hz2
 have L:(fT t).length+1<=maxLen∧((fT t).length+1)*184<=140737488355328:=⟨by unfold maxLen;omega,by omega⟩;generalize (fT t)=fl at *;obtain⟨n,z⟩:∃n,fl.length=n:=⟨_,rfl⟩;rw[z] at HA L;go_enter func277,ntmps277;go_wp2;go_region_law (first
  | (go_simp;go_at_call 278;refine(HA _ HT1).mono ?_;rintro e a ⟨D,p,bo,bc,rfl,N,r⟩;have q:=XM _ r;have x0:a.cell? ⟨w.heap.size,0,U⟩=_:=am a _ 0 _ _ _ q;have x1:a.cell? ⟨w.heap.size,1,U⟩=_:=am a _ 1 _ _ _ q;have x2:a.cell? ⟨w.heap.size,2,U⟩=_:=am a _ 2 _ _ _ q;have x3:a.cell? ⟨w.heap.size,3,U⟩=_:=am a _ 3 _ _ _ q;have x4:a.cell? ⟨w.heap.size,4,U⟩=_:=am a _ 4 _ _ _ q;have x5:a.cell? ⟨w.heap.size,5,U⟩=_:=am a _ 5 _ _ _ q;have x6:a.cell? ⟨w.heap.size,6,U⟩=_:=am a _ 6 _ _ _ q;have x7:a.cell? ⟨w.heap.size,7,U⟩=_:=am a _ 7 _ _ _ q;have x8:a.cell? ⟨w.heap.size,8,U⟩=_:=am a _ 8 _ _ _ q;have x9:a.cell? ⟨w.heap.size,9,U⟩=_:=am a _ 9 _ _ _ q;have x10:a.cell? ⟨w.heap.size,10,U⟩=_:=am a _ 10 _ _ _ q;have x11:a.cell? ⟨w.heap.size,11,U⟩=_:=am a _ 11 _ _ _ q;simp only[mS,List.getElem?_cons_zero,List.getElem?_cons_succ] at x0 x1 x2 x3 x4 x5 x6 x7 x8 x9 x10 x11;have HT:=aa r;obtain⟨xs,s,v⟩:=(N.B ((aq _ _).alloc (ak _) (K #[I J k,V ⟨#[]⟩,V ⟨#[]⟩,I J 0,Z U 0 0,I J 0,Z U 0 0,V d,V f,V l,Z U 0 0,I J c] 98))).y;have XP:=aa s;have B:=aa v;clear r q N s v)
  | (go_simp;go_at_call 278;refine(HA _ HT2.o).mono ?_;rintro e a ⟨D,p,bo,bc,rfl,N,r⟩;have HXc:=aa (ZI _ r);have HT:=aa r;obtain⟨xs,s,v⟩:=N.y;have XP:=aa s;have B:=aa v;clear r N s v)
  | (refine step_append_lies _ (by rfl) _ _ _ (by rfl) 0 98 i0 (.agg #[I J 0,V ⟨#[]⟩,V ⟨#[]⟩,I J 0,Z U 0 0,I J 0,Z U 0 0,V ⟨#[]⟩,V ⟨#[]⟩,V ⟨#[]⟩,Z U 0 0,I J 0]) 12 184 underlying58 Hi kT.o kL.o kU.o (by rfl) (by decide) (Z D n p) n _ (by rfl) (z▸XP.o) ⟨a.heap.size,0,U⟩ 1 1 ((na k d f l c).d ⟨U,0,U,0,U,0⟩) (by rfl) (by rfl) (HX3 a) (rD _ _) (by decide) L.1 L.2 (ax _) (a.heap.size+1) (by simp) ?_;intro g3 iq x m b C T;rw[dI] at b C;have y:=B.o g3 iq x k d f l c (z.symm▸m) b (by simpa using C);have q0:x.cell? ⟨g,0,U⟩=_:=am x g 0 _ _ _ y.1;have f0:x.frozen? ⟨g,0,U⟩=false:=aD x g 0 _ _ y.1;rw[z] at q0 y;have HQ:=aa y;clear y b m C)
  | (refine step_append_lies _ (by rfl) _ _ _ (by rfl) 0 98 i0 (.agg #[I J 0,V ⟨#[]⟩,V ⟨#[]⟩,I J 0,Z U 0 0,I J 0,Z U 0 0,V ⟨#[]⟩,V ⟨#[]⟩,V ⟨#[]⟩,Z U 0 0,I J 0]) 12 184 underlying58 Hi kT.o kL.o kU.o (by rfl) (by decide) (Z D n p) n _ (by rfl) (z▸XP.o) ⟨w.heap.size+1,0,U⟩ 1 1 ((na k d f l c).d ⟨U,0,U,0,U,0⟩) (by rfl) (by rfl) HXc.o (rD _ _) (by decide) L.1 L.2 (ax _) a.heap.size (by rfl) ?_;intro g3 iq x m b C T;rw[dI] at b C;have y:=B.o g3 iq x k d f l c (z.symm▸m) b (by simpa using C);have q0:x.cell? ⟨g,0,U⟩=_:=am x g 0 _ _ _ y.1;have f0:x.frozen? ⟨g,0,U⟩=false:=aD x g 0 _ _ y.1;rw[z] at q0 y;have HQ:=aa y;clear y b m C))
 all_goals
  go_wp2;go_end0
  rw[HE.o];first
   | exact⟨rfl,Fy HB1 HT.o ((aq _ _).alloc (ak _) _) HQ.o.2.1 HQ.o.2.2⟩
   | exact⟨rfl,Fy HB2.o HT.o (aq _ _) HQ.o.2.1 HQ.o.2.2⟩
