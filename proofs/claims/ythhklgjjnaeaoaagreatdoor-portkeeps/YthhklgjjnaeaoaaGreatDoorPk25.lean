/- Small texts, one behind the other: TdB, TdC, TdD. -/
import Derived.Test.YthhklgjjnaeaoaaGreatDoorPk23
import Derived.Deep.RegionLaw
import Derived.Deep.AppendLies
open Go.Value renaming int->I,string->V,slice->Z,pointer->Q
open Go.IntKind renaming i64->J
open Go.Obj renaming cells->K
open Go.Ending renaming returned->Y
open Option renaming none->U,some->M
open Or renaming inl->A,inr->R
open Go renaming World->X
set_option maxHeartbeats 4000000
set_option maxRecDepth 100000
open Go.Proofs.Tryz
namespace Go.Proofs.YthhklgjjnaeaoaaGreatDoor
open Go.RowKit
theorem Lr:(prog.info? 98).map (fun i=>(i.zero,i.size,i.bytes))=M (M (.agg #[I J 0,V ⟨#[]⟩,V ⟨#[]⟩,I J 0,Z U 0 0,I J 0,Z U 0 0,V ⟨#[]⟩,V ⟨#[]⟩,V ⟨#[]⟩,Z U 0 0,I J 0]),12,184):=by kernel_rfl
theorem Xi {c:X}{S:Nat->Prop}{g:Nat}{x y:Value}{gJ:ak}{b n:Nat}{es:List iH}(f:c.heap[g]? = M (K #[x,y] 315 (0,0)))(i:S g)(ha:oC c (fun k=>S k∧k≠g) 98 gJ b es)(j:n=es.length):
 jF ((c.setCell ⟨g,0,U⟩ (Z gJ n b)).setCell ⟨g,1,U⟩ (Z U 0 0)) S g gJ b U 0 ⟨es,[]⟩∧Turns (fun k=>k=g) c ((c.setCell ⟨g,0,U⟩ (Z gJ n b)).setCell ⟨g,1,U⟩ (Z U 0 0)):=by
 subst j;have d:Turns (fun k=>k=g) c ((c.setCell ⟨g,0,U⟩ (Z gJ es.length b)).setCell ⟨g,1,U⟩ (Z U 0 0)):=(Turns.setCell (fun k=>k=g) c ⟨g,0,U⟩ _ rfl).trans (Turns.setCell (fun k=>k=g) _ ⟨g,1,U⟩ _ rfl) (fun _ e _=>e);refine⟨⟨?_,?_,iA.nil _ _ _,fun a e=>(by cases e),i⟩,d⟩
 . have l:(c.setCell ⟨g,0,U⟩ (Z gJ es.length b)).heap[g]? = M (K #[Z gJ es.length b,y] 315 (0,0)):=by rw[fu c g 0 _ _ _ f];rfl
   rw[fu _ g 1 _ _ _ l];rfl
 . exact(ha.turns d (fun k e=>e.2)).mono (fun k _ e=>⟨e,by simp[fV]⟩)
theorem OB (w:X)(S:Nat->Prop)(g:Nat)(ao:ak)(cap:Nat)(bo:ak)(a:Nat)(es:List iH)(h:jF w S g ao cap bo a ⟨es,[]⟩):
 Calls prog 280 #[Q (M ⟨g,0,U⟩)] w fun e w'=>e=Y (Z ao es.length cap)∧w'=w:=by
 have b:=h.c0;have c:=h.c1;generalize es.length=n at *;go_enter func280,ntmps280;go_wp2;go_ret;exact⟨rfl,rfl⟩
theorem OC (w:X)(S:Nat->Prop)(g:Nat)(ao:ak)(cap:Nat)(bo:ak)(c n nb:Nat)(t:Fm.Td)(h:jF w S g ao cap bo c t)(hb:t.bs≠[])(x:t.es.length=n)(hl:n<=100000)(i:t.bs.length=nb):
 Calls prog 280 #[Q (M ⟨g,0,U⟩)] w fun e w'=>∃gJ m,e=Y (Z gJ (n+1) m)∧jF w' (gB S w) g gJ m U 0 ⟨t.es++[jC t.bs],[]⟩∧Turns S w w':=by
 have c0:=x▸h.c0;have c1:=i▸h.c1;have hnp:0<nb:=by rw[<-i];exact eu.2 hb
 have t0:=aI (by omega);obtain⟨ps,L,N⟩:=h.all.push (K #[I J 2,V ⟨#[]⟩,V ⟨#[]⟩,I J 0,Z U 0 0,I J 0,Z bo nb c,V ⟨#[]⟩,V ⟨#[]⟩,V ⟨#[]⟩,Z U 0 0,I J 0] 98);rw[x] at L N;have y:∀k,fV ao=M k->(S k∧k≠g)∧fV bo≠M k:=fun k e=>by
  obtain⟨_,_,_,hm,_⟩:=h.all;cases ao with
  | none=>cases e
  | some a=>injection e with e;subst e;exact hm a rfl
 have HK:∀z,(w.alloc (K #[I J 2,V ⟨#[]⟩,V ⟨#[]⟩,I J 0,Z U 0 0,I J 0,Z bo nb c,V ⟨#[]⟩,V ⟨#[]⟩,V ⟨#[]⟩,Z U 0 0,I J 0] 98)).drew.grownBy z (Value.slice ao n cap).ownBlock->z.heap[g]? = M (K #[Z ao n cap,Z bo nb c] 315 (0,0)):=fun z s=>by
  rw[gD] at s;have T:=((eY _ w).alloc (aM _) (K #[I J 2,V ⟨#[]⟩,V ⟨#[]⟩,I J 0,Z U 0 0,I J 0,Z bo nb c,V ⟨#[]⟩,V ⟨#[]⟩,V ⟨#[]⟩,Z U 0 0,I J 0] 98)).block g h.lt;have W:=s.block g (by show g<(w.alloc _).heap.size;rw[fG];have:=h.lt;omega) (fun e=>(y g e.symm).1.2 rfl);have l:=h.row;rw[x,i] at l;exact W.trans (T.trans l)
 have jc:=(eY _ w).alloc (aM _) (K #[I J 2,V ⟨#[]⟩,V ⟨#[]⟩,I J 0,Z U 0 0,I J 0,Z bo nb c,V ⟨#[]⟩,V ⟨#[]⟩,V ⟨#[]⟩,Z U 0 0,I J 0] 98);have c0a:=(jc.cell (p:=⟨g,0,U⟩) h.lt).trans c0;have c1a:=(jc.cell (p:=⟨g,1,U⟩) h.lt).trans c1;have HO:=gH.stay L (gy _ _);have WT:∀j u,((jC t.bs).cells ⟨U,0,bo,c,U,0⟩)[j]? = M u->(w.alloc (K #[I J 2,V ⟨#[]⟩,V ⟨#[]⟩,I J 0,Z U 0 0,I J 0,Z bo nb c,V ⟨#[]⟩,V ⟨#[]⟩,V ⟨#[]⟩,Z U 0 0,I J 0] 98)).drew.cell? (Addr.add ⟨w.heap.size,0,U⟩ j)=M u:=fun j u hu=>by
  rw[fQ,aZ];show(w.alloc _).cell? _=_;rw[World.cell?_alloc_at _ _ _ _ rfl,<-i,dD];exact hu
 have B:BQ w (fun k=>fV bo=M k) (jC t.bs) ⟨U,0,bo,c,U,0⟩:=⟨nN.nil _ _,⟨h.own.tQ,fun _ a e=>by have e:bo=M a:=e;rw[e];rfl⟩,jI.nil _ _⟩;obtain⟨i0,C,D,G,H⟩:=info_parts Lr;have Hi:=C;have kY:=H9 D;have kT:=H9 G;have kZ:=H9 H
 have HN:n+1<=maxLen∧(n+1)*184<=140737488355328:=⟨by unfold maxLen;omega,by omega⟩;go_enter func280,ntmps280;go_wp2;go_region_law
  ((refine step_append_lies _ (by rfl) _ _ _ (by rfl) 0 98 i0 (.agg #[I J 0,V ⟨#[]⟩,V ⟨#[]⟩,I J 0,Z U 0 0,I J 0,Z U 0 0,V ⟨#[]⟩,V ⟨#[]⟩,V ⟨#[]⟩,Z U 0 0,I J 0]) 12 184 underlying58 Hi kY.o kT.o kZ.o (by rfl) (by decide) (Z ao n cap) n _ (by rfl) HO ⟨w.heap.size,0,U⟩ 1 1 ((jC t.bs).cells ⟨U,0,bo,c,U,0⟩) (by rfl) (by rfl) WT (cells_one _ _) (by decide) HN.1 HN.2 (aA _) (w.heap.size+1) (by simp) ?_;intro g3 gZ f d b jQ hlt3;have l:=HK _ b;have q0:f.cell? ⟨g,0,U⟩=M (Z ao n cap):=eZ f g 0 _ _ _ l;have q1:f.cell? ⟨g,1,U⟩=M (Z bo nb c):=eZ f g 1 _ _ _ l;have f0:f.frozen? ⟨g,0,U⟩=false:=fq f g 0 _ _ l;have f1:f.frozen? ⟨g,1,U⟩=false:=fq f g 1 _ _ l;have q:=H9 l;have xU:=H9 b;have rZ:=H9 d;have Jy:=H9 jQ;clear b d jQ l))
 all_goals
  go_wp2;go_ret;have s:=xU.o;have v:=Jy.o;rw[gD] at s v;obtain⟨r1,r2⟩:=N (M ⟨g3,0,U⟩) gZ f (jC t.bs) ⟨U,0,bo,c,U,0⟩ (fun k=>fV bo=M k) _ rfl B ⟨rfl,rfl⟩ (fun k e=>e.2) rZ.o (jM (qD _ _) s) (by
   rcases v with e | e
   . exact A e.symm
   . exact R (by rw[fG,e];rfl))
  have hlt:=h.lt;have r3:oC f (fun k=>gB S w k∧k≠g) 98 (M ⟨g3,0,U⟩) gZ (t.es++[jC t.bs]):=r1.mono (fun k _ e=>by
   rcases e with e | e | e
   . exact⟨A e.1.1,e.1.2⟩
   . cases bo with
     | none=>cases e
     | some a=>injection e with e;subst e;exact⟨A (h.mem a rfl).1,(h.mem a rfl).2⟩
   . exact⟨R e,by omega⟩)
  have r4:=Xi q.o (S:=gB S w) (A h.me) r3 (n:=n+1) (by rw[aV];exact bC (·+1) (by obtain⟨qs,hq,hw,_⟩:=h.all;have T:=h.row;have W:=q.o;have:=h.c0;have h4:=q0;exact(by
   have r:=r2.row h.row (fun e=>e.1.2 rfl);rw[q.o] at r;injection r with r;injection r with r;have:=bC (fun a:Array Value=>a[0]?) r;simpa using this)))
  exact⟨_,_,rfl,r4.1,(r2.mono (fun k e=>e.1.1)).trans (r4.2.mono (S':=S) (fun k e=>by subst e;exact h.me)) (fun _ e _=>e)⟩
theorem Tq {w c:X}{S:Nat->Prop}{g:Nat}{ao bo d:ak}{cap r b n:Nat}{t:Fm.Td}{l:av}(h:jF w S g ao cap bo r t)(s:iA c 0 5 d b (t.bs++l))(u:w.grownBy c (fV bo))(f:fV d=fV bo∨fV d=M w.heap.size)(v:n=(t.bs++l).length):
 jF (c.setCell ⟨g,1,U⟩ (Z d n b)) (gB S w) g ao cap d b ⟨t.es,t.bs++l⟩∧Turns S w (c.setCell ⟨g,1,U⟩ (Z d n b)):=by
 subst v;have x:=h.lt;have i:=Turns.iL u (fun k e=>e);have j:∀k,fV bo=M k->S k∧k≠g:=fun k e=>by
  cases bo with
  | none=>cases e
  | some a=>injection e with e;subst e;exact h.mem a rfl
 have y:=i.row h.row (fun e=>(j g e).2 rfl);have q:Turns (fun k=>k=g) c (c.setCell ⟨g,1,U⟩ (Z d (t.bs++l).length b)):=Turns.setCell (fun k=>k=g) c ⟨g,1,U⟩ _ rfl;have o:∀a,d=M a->gB S w a.block∧a.block≠g:=fun a e=>by
  rw[e] at f;rcases f with m | m
  . have:=j a.block m.symm;exact⟨A this.1,this.2⟩
  . injection m with m;exact⟨R (by omega),by omega⟩
 refine⟨⟨?_,?_,s.turns q (fun a e=>(o a e).2),o,A h.me⟩,(i.mono (fun k e=>(j k e).1)).trans (q.mono (S':=S) (fun k e=>by subst e;exact h.me)) (fun _ e _=>e)⟩
 . rw[fu c g 1 _ _ _ y];rfl
 . have z:=(h.all.mono (S':=fun k=>((S k∧k≠g)∧fV bo≠M k)∧k<w.heap.size) (fun k B e=>⟨e,B⟩)).turns i (fun k e=>e.1.2);refine(z.turns q (fun k e=>e.1.1.2)).mono (fun k _ e=>⟨⟨A e.1.1.1,e.1.1.2⟩,fun m=>?_⟩);rcases f with p | p
   . exact e.1.2 (p.symm.trans m)
   . rw[m] at p;injection p with p;have:=e.2;omega
theorem I9 (w:X)(S:Nat->Prop)(g:Nat)(t:Fm.Td)(s:ak)(u m:Nat)(l:av)(h:mK w S g t)(H:gN w s u l)(L:l.length=m)(N:t.bs.length+m<=1000000):
 Calls prog 340 #[Q (M ⟨g,0,U⟩),Z s m u] w fun e w'=>e=Y (.tuple #[])∧mK w' (gB S w) g ⟨t.es,t.bs++l⟩∧Turns S w w':=by
 obtain⟨ao,T,j,W,h⟩:=h;obtain⟨nb,c⟩:∃nb,t.bs.length=nb:=⟨_,rfl⟩;have c1:=c▸h.c1;have v:=h;have HS:=H9 H;have x:=H9 L;have y:=H9 c
 have d:fV j≠M g:=fun e=>by
  cases j with
  | none=>cases e
  | some a=>injection e with e;exact(h.mem a rfl).2 e
 have z:∀f,w.grownBy f (fV j)->f.cell? ⟨g,1,U⟩=M (Z j nb W)∧f.frozen? ⟨g,1,U⟩=false:=fun f B=>by
  have h1:=B.block g h.lt (fun e=>d e.symm);have h2:=h1.trans h.row;exact⟨(B.cell c1 (fun e=>d e.symm)),fq f g 1 _ _ h2⟩
 rw[c] at N;obtain⟨i0,k,p,q,r⟩:=info_parts jJ;have Hi:=k;have kY:=H9 p;have kT:=H9 q;have kZ:=H9 r
 go_enter func340,ntmps340;go_wp2_with (at_builtin;refine jP rfl (.tmp 8) (.tmp 9) 31 rfl 0 5 i0 underlying31 Hi kY.o kT.o kZ.o (l:=t.bs) (l2:=l) rfl y.o v.own rfl x.o HS.o (by omega) (aA _) ?_;intro kI gZ C i b D;have q1:=(z C b).1;have qf:=(z C b).2;have rZ:=H9 i;have xU:=H9 b;have Jy:=H9 D;clear i b D)
 have G:=Tq v rZ.o xU.o Jy.o (n:=nb+m) (by rw[aV,y.o,x.o]);go_end0
 exact⟨rfl,⟨_,_,_,_,G.1⟩,G.2⟩
def uQ (k:Int)(pn pf pt:ay)(c:Int):iH:=⟨k,⟨#[]⟩,⟨#[]⟩,0,[],0,[],pn,pf,pt,[],c⟩
theorem GR (w:X)(S:Nat->Prop)(g:Nat)(t:Fm.Td)(h:mK w S g t)(i:t.es.length<=100000):
 Calls prog 280 #[Q (M ⟨g,0,U⟩)] w fun e w'=>∃ao cap bo a,e=Y (Z ao (Fm.flush t).length cap)∧jF w' (gB S w) g ao cap bo a ⟨Fm.flush t,[]⟩∧Turns S w w':=by
 obtain⟨ao,cap,bo,a,h⟩:=h;obtain⟨es,bs⟩:=t;by_cases c:bs=[]
 . subst c;have d:Fm.flush ⟨es,[]⟩=es:=by unfold Fm.flush Fm.nG;simp
   rw[d];refine(OB w S g ao cap bo a es h).mono ?_;rintro e w' ⟨f,j⟩;subst j;exact⟨ao,cap,bo,a,f,h.mono (fun k _ e=>A e),Turns.refl _ _⟩
 . have d:Fm.flush ⟨es,bs⟩=es++[jC bs]:=by unfold Fm.flush Fm.nG;simp[c]
   rw[d];refine(OC w S g ao cap bo a es.length bs.length ⟨es,bs⟩ h c rfl i rfl).mono ?_;rintro e w' ⟨l,b,f,m,n⟩;exact⟨l,b,U,0,by rw[f];simp,m,n⟩
theorem oC.grow {W:X}{S:Nat->Prop}{d:Nat}{ao:ak}{cap:Nat}{es:List iH}(h:oC W S d ao cap es):∃f:List (iH×EvS),gH W 0 d 12 ao cap es.length (iY f) ∧
 ∀gJ b w' (e:iH) s (N:Nat->Prop) g,e.cells s=g->BQ W N e s->s.po=U∧s.jh=0->(∀k,S k->¬N k)->gH w' 0 d 12 gJ b (es.length+1) (iY f++g)->W.grownBy w' (fV ao)->(fV gJ=fV ao∨fV gJ=M W.heap.size)->oC w' (fun k=>S k∨N k∨W.heap.size<=k) d gJ b (es++[e])∧Turns S W w':=by
 obtain⟨f,c,q,m,r,t⟩:=h;refine⟨f,q,fun gJ b w' e s N g u v i w n o j=>?_⟩;subst u;have x:iY [(e,s)]=e.cells s:=by simp[iY]
 rw[<-x] at n;have:=oC.more (N:=N) m r (ps2:=[(e,s)]) (fun p l=>by rw[bA.1 l];exact v) w n (by rw[<-c,aF];rfl) o j t (fun p l=>by rw[bA.1 l];exact i);refine⟨?_,Turns.iL (S:=S) o (fun k e=>?_)⟩
 . rw[c] at this;refine this.mono (fun k y e=>?_);rcases e with e | e | e
   . exact A e
   . exact R (A e)
   . exact R (R (by omega))
 . cases ao with
   | none=>cases e
   | some a=>injection e with e;subst e;exact m a rfl
theorem jF.grow {W:X}{S:Nat->Prop}{g:Nat}{ao bo:ak}{cap n:Nat}{es:List iH}(h:jF W S g ao cap bo n ⟨es,[]⟩):∃xs,gH W 0 98 12 ao cap es.length xs ∧
 ∀b f d k j l m c, gH d 0 98 12 (M ⟨b, 0, U⟩) f (es.length + 1) (xs ++ (uQ k j l m c).cells ⟨U, 0, U, 0, U, 0⟩) -> W.grownBy d (fV ao) -> (fV ao = M b ∨ b = W.heap.size) ->
   d.heap[g]? = M (K #[Z ao es.length cap,Z bo 0 n] 315 (0,0))∧jF (d.setCell ⟨g,0,U⟩ (Z (M ⟨b,0,U⟩) (es.length+1) f)) (gB S W) g (M ⟨b,0,U⟩) f bo n ⟨es++[uQ k j l m c],[]⟩∧Turns S W (d.setCell ⟨g,0,U⟩ (Z (M ⟨b,0,U⟩) (es.length+1) f)):=by
 obtain⟨u,v,w⟩:=h.all.grow;refine⟨iY u,v,fun b f d k j l m c o x p=>?_⟩;obtain⟨y,q⟩:=w (M ⟨b,0,U⟩) f d (uQ k j l m c) ⟨U,0,U,0,U,0⟩ (fun _=>False) _ rfl ⟨nN.nil _ _,jI.nil _ _,jI.nil _ _⟩ ⟨rfl,rfl⟩ (fun _ _ e=>e) o x (by
  rcases p with e | e
  . exact A e.symm
  . exact R (by rw[e];rfl))
 have z:=h.lt;have t:=q.row h.row (fun e=>e.1.2 rfl);have r:Turns (fun i=>i=g) d (d.setCell ⟨g,0,U⟩ (Z (M ⟨b,0,U⟩) (es.length+1) f)):=Turns.setCell (fun i=>i=g) d ⟨g,0,U⟩ _ rfl;refine⟨t,⟨?_,?_,?_,fun a e=>⟨A (h.mem a e).1,(h.mem a e).2⟩,A h.me⟩,(q.mono (fun i e=>e.1.1)).trans (r.mono (S':=S) (fun i e=>by subst e;exact h.me)) (fun _ e _=>e)⟩
 . rw[fu d g 0 _ _ _ t];show M (Obj.cells #[Z (M ⟨b,0,U⟩) (es.length+1) f,Z bo 0 n] _ _)=M (Obj.cells #[Z (M ⟨b,0,U⟩) (es++[uQ k j l m c]).length f,Z bo 0 n] _ _);rw[aV];rfl
 . have B:oC d (fun i=>(gB S W i∧i≠g)∧fV bo≠M i) 98 (M ⟨b,0,U⟩) f (es++[uQ k j l m c]):=y.mono (fun i _ e=>by
    rcases e with e | e | e
    . exact⟨⟨A e.1.1,e.1.2⟩,e.2⟩
    . exact e.elim
    . refine⟨⟨R e,by omega⟩,fun s=>?_⟩;cases bo with
      | none=>cases s
      | some a=>injection s with s;have:=(h.own.block a rfl).2;omega)
   exact B.turns r (fun i e=>e.1.2)
 . exact(h.own.turns q (fun a e k=>k.2 (by rw[e];rfl))).turns r (fun a e=>(h.mem a e).2)
theorem Ls {w W c W' b:X}{S:Nat->Prop}{g:Nat}{t:Fm.Td}{ao bo:ak}{cap j:Nat}(d:Below w.heap.size w W)(f:Turns (fun i=>S i∧i<w.heap.size) W c)(a:Below c.heap.size c W')(l:jF b (gB (gB (fun i=>S i∧i<w.heap.size) W) W') g ao cap bo j t)(m:Turns (gB (fun i=>S i∧i<w.heap.size) W) W' b):mK b (gB S w) g t∧Turns S w b:=by
 have n:=d.size;have o:=f.size;have p:=a.size
 refine⟨⟨_,_,_,_,l.mono (fun k _ e=>?_)⟩,?_⟩
 . rcases e with e | e
   . rcases e with e | e
     . exact A e.1
     . exact R (by omega)
   . exact R (by omega)
 . refine(((Turns.of_below (S:=S) d).trans (f.mono (S':=S) (fun i e=>e.1)) (fun _ e _=>e)).trans (Turns.of_below (S:=S) a) (fun _ e _=>e)).trans m (fun i e q=>?_);rcases e with e | e
   . exact e.1
   . omega
theorem wZ (w:X)(S:Nat->Prop)(g:Nat)(t:Fm.Td)(k:Int)(d f l:ay)(c:Int)(h:mK w S g t)(hk:k≠2)(hl:t.es.length<=90000):
 Calls prog 279 #[Q (M ⟨g,0,U⟩),.agg #[I J k,V ⟨#[]⟩,V ⟨#[]⟩,I J 0,Z U 0 0,I J 0,Z U 0 0,V d,V f,V l,Z U 0 0,I J c]] w fun e w'=>e=Y (.tuple #[])∧mK w' (gB S w) g (Fm.tell t (uQ k d f l c))∧Turns S w w':=by
 have HE:Hid (Fm.tell t (uQ k d f l c)=⟨Fm.flush t++[uQ k d f l c],[]⟩):=by unfold Hid Fm.tell;exact if_neg hk
 have hfl:(Fm.flush t).length<=90001:=by
  unfold Fm.flush Fm.nG;rw[aV];split <;> simp <;> omega
 have HA:∀W,mK W (fun i=>S i∧i<w.heap.size) g t->Calls prog 280 #[Q (M ⟨g,0,U⟩)] W fun e w'=>∃D p bo bc,e=Y (Z D (Fm.flush t).length p)∧jF w' (gB (fun i=>S i∧i<w.heap.size) W) g D p bo bc ⟨Fm.flush t,[]⟩∧Turns (fun i=>S i∧i<w.heap.size) W w':=fun W hW=>GR W _ g t hW (by omega);have h0:mK w (fun i=>S i∧i<w.heap.size) g t:=h.mono (fun i hi e=>⟨e,hi⟩);have G:Below w.heap.size w (w.alloc (K #[I J k,V ⟨#[]⟩,V ⟨#[]⟩,I J 0,Z U 0 0,I J 0,Z U 0 0,V d,V f,V l,Z U 0 0,I J c] 98)).drew:=((eY _ w).alloc (aM _) _).trans (gy _ _);have H:Below w.heap.size w ((w.alloc (K #[I J k,V ⟨#[]⟩,V ⟨#[]⟩,I J 0,Z U 0 0,I J 0,Z U 0 0,V d,V f,V l,Z U 0 0,I J c] 98)).alloc (K #[I J k,V ⟨#[]⟩,V ⟨#[]⟩,I J 0,Z U 0 0,I J 0,Z U 0 0,V d,V f,V l,Z U 0 0,I J c] 98)).drew:=(((eY _ w).alloc (aM _) _).alloc (by rw[fG];omega) _).trans (gy _ _);have HT1:=(h0.stay G);have HT2:=H9 (h0.stay H)
 have Zx:S g:=by obtain⟨_,_,_,_,h⟩:=h;exact h.me
 have HB1:=G;have HB2:=H9 H
 have HX1:∀a,Turns (fun i=>S i∧i<w.heap.size) (w.alloc (K #[I J k,V ⟨#[]⟩,V ⟨#[]⟩,I J 0,Z U 0 0,I J 0,Z U 0 0,V d,V f,V l,Z U 0 0,I J c] 98)).drew a->a.heap[w.heap.size]? = M (K #[I J k,V ⟨#[]⟩,V ⟨#[]⟩,I J 0,Z U 0 0,I J 0,Z U 0 0,V d,V f,V l,Z U 0 0,I J c] 98 (0,0)):=fun a r=>r.row (eX w _) (fun e=>by have:=e.2;omega);have WU:∀a,Turns (fun i=>S i∧i<w.heap.size) ((w.alloc (K #[I J k,V ⟨#[]⟩,V ⟨#[]⟩,I J 0,Z U 0 0,I J 0,Z U 0 0,V d,V f,V l,Z U 0 0,I J c] 98)).alloc (K #[I J k,V ⟨#[]⟩,V ⟨#[]⟩,I J 0,Z U 0 0,I J 0,Z U 0 0,V d,V f,V l,Z U 0 0,I J c] 98)).drew a->∀j u,((uQ k d f l c).cells ⟨U,0,U,0,U,0⟩)[j]? = M u->a.cell? (Addr.add ⟨w.heap.size+1,0,U⟩ j)=M u:=fun a r j u hu=>by
  have h1:((w.alloc (K #[I J k,V ⟨#[]⟩,V ⟨#[]⟩,I J 0,Z U 0 0,I J 0,Z U 0 0,V d,V f,V l,Z U 0 0,I J c] 98)).alloc (K #[I J k,V ⟨#[]⟩,V ⟨#[]⟩,I J 0,Z U 0 0,I J 0,Z U 0 0,V d,V f,V l,Z U 0 0,I J c] 98)).drew.heap[w.heap.size+1]? = M (K #[I J k,V ⟨#[]⟩,V ⟨#[]⟩,I J 0,Z U 0 0,I J 0,Z U 0 0,V d,V f,V l,Z U 0 0,I J c] 98 (0,0)):=by
   have:=eX (w.alloc (K #[I J k,V ⟨#[]⟩,V ⟨#[]⟩,I J 0,Z U 0 0,I J 0,Z U 0 0,V d,V f,V l,Z U 0 0,I J c] 98)) (K #[I J k,V ⟨#[]⟩,V ⟨#[]⟩,I J 0,Z U 0 0,I J 0,Z U 0 0,V d,V f,V l,Z U 0 0,I J c] 98);rw[fG] at this;exact this
  have h2:=r.row h1 (fun e=>by have:=e.2;omega);rw[fQ,aZ,eZ a (w.heap.size+1) j _ _ _ h2,dD];exact hu
 have HX3:∀(a:X) j u,((uQ k d f l c).cells ⟨U,0,U,0,U,0⟩)[j]? = M u->(a.alloc (K #[I J k,V ⟨#[]⟩,V ⟨#[]⟩,I J 0,Z U 0 0,I J 0,Z U 0 0,V d,V f,V l,Z U 0 0,I J c] 98)).cell? (Addr.add ⟨a.heap.size,0,U⟩ j)=M u:=fun a j u hu=>by
  rw[fQ,aZ,World.cell?_alloc_at _ _ _ _ rfl,dD];exact hu
 obtain⟨i0,hi0,hz0,hz1,hz2⟩:=info_parts Lr;have Hi:=hi0;have kY:=H9 hz0;have kT:=H9 hz1;have kZ:=H9 hz2
 have L:(Fm.flush t).length+1<=maxLen∧((Fm.flush t).length+1)*184<=140737488355328:=⟨by unfold maxLen;omega,by omega⟩;generalize (Fm.flush t)=fl at *;obtain⟨n,z⟩:∃n,fl.length=n:=⟨_,rfl⟩;rw[z] at HA L;go_enter func279,ntmps279;go_wp2;go_region_law (first
  | (go_simp;go_at_call 280;refine(HA _ HT1).mono ?_;rintro e a ⟨D,p,bo,bc,rfl,N,r⟩;have q:=HX1 _ r;have x0:a.cell? ⟨w.heap.size,0,U⟩=_:=eZ a _ 0 _ _ _ q;have x1:a.cell? ⟨w.heap.size,1,U⟩=_:=eZ a _ 1 _ _ _ q;have x2:a.cell? ⟨w.heap.size,2,U⟩=_:=eZ a _ 2 _ _ _ q;have x3:a.cell? ⟨w.heap.size,3,U⟩=_:=eZ a _ 3 _ _ _ q;have x4:a.cell? ⟨w.heap.size,4,U⟩=_:=eZ a _ 4 _ _ _ q;have x5:a.cell? ⟨w.heap.size,5,U⟩=_:=eZ a _ 5 _ _ _ q;have x6:a.cell? ⟨w.heap.size,6,U⟩=_:=eZ a _ 6 _ _ _ q;have x7:a.cell? ⟨w.heap.size,7,U⟩=_:=eZ a _ 7 _ _ _ q;have x8:a.cell? ⟨w.heap.size,8,U⟩=_:=eZ a _ 8 _ _ _ q;have x9:a.cell? ⟨w.heap.size,9,U⟩=_:=eZ a _ 9 _ _ _ q;have x10:a.cell? ⟨w.heap.size,10,U⟩=_:=eZ a _ 10 _ _ _ q;have x11:a.cell? ⟨w.heap.size,11,U⟩=_:=eZ a _ 11 _ _ _ q;simp only[dD,List.getElem?_cons_zero,List.getElem?_cons_succ] at x0 x1 x2 x3 x4 x5 x6 x7 x8 x9 x10 x11;have HT:=H9 r;obtain⟨xs,s,v⟩:=(N.stay ((eY _ _).alloc (aM _) (K #[I J k,V ⟨#[]⟩,V ⟨#[]⟩,I J 0,Z U 0 0,I J 0,Z U 0 0,V d,V f,V l,Z U 0 0,I J c] 98))).grow;have UK:=H9 s;have B:=H9 v;clear r q N s v)
  | (go_simp;go_at_call 280;refine(HA _ HT2.o).mono ?_;rintro e a ⟨D,p,bo,bc,rfl,N,r⟩;have HXc:=H9 (WU _ r);have HT:=H9 r;obtain⟨xs,s,v⟩:=N.grow;have UK:=H9 s;have B:=H9 v;clear r N s v)
  | (refine step_append_lies _ (by rfl) _ _ _ (by rfl) 0 98 i0 (.agg #[I J 0,V ⟨#[]⟩,V ⟨#[]⟩,I J 0,Z U 0 0,I J 0,Z U 0 0,V ⟨#[]⟩,V ⟨#[]⟩,V ⟨#[]⟩,Z U 0 0,I J 0]) 12 184 underlying58 Hi kY.o kT.o kZ.o (by rfl) (by decide) (Z D n p) n _ (by rfl) (z▸UK.o) ⟨a.heap.size,0,U⟩ 1 1 ((uQ k d f l c).cells ⟨U,0,U,0,U,0⟩) (by rfl) (by rfl) (HX3 a) (cells_one _ _) (by decide) L.1 L.2 (aA _) (a.heap.size+1) (by simp) ?_;intro g3 gZ x m b C T;rw[gD] at b C;have y:=B.o g3 gZ x k d f l c (z.symm▸m) b (by simpa using C);have q0:x.cell? ⟨g,0,U⟩=_:=eZ x g 0 _ _ _ y.1;have f0:x.frozen? ⟨g,0,U⟩=false:=fq x g 0 _ _ y.1;rw[z] at q0 y;have HQ:=H9 y;clear y b m C)
  | (refine step_append_lies _ (by rfl) _ _ _ (by rfl) 0 98 i0 (.agg #[I J 0,V ⟨#[]⟩,V ⟨#[]⟩,I J 0,Z U 0 0,I J 0,Z U 0 0,V ⟨#[]⟩,V ⟨#[]⟩,V ⟨#[]⟩,Z U 0 0,I J 0]) 12 184 underlying58 Hi kY.o kT.o kZ.o (by rfl) (by decide) (Z D n p) n _ (by rfl) (z▸UK.o) ⟨w.heap.size+1,0,U⟩ 1 1 ((uQ k d f l c).cells ⟨U,0,U,0,U,0⟩) (by rfl) (by rfl) HXc.o (cells_one _ _) (by decide) L.1 L.2 (aA _) a.heap.size (by rfl) ?_;intro g3 gZ x m b C T;rw[gD] at b C;have y:=B.o g3 gZ x k d f l c (z.symm▸m) b (by simpa using C);have q0:x.cell? ⟨g,0,U⟩=_:=eZ x g 0 _ _ _ y.1;have f0:x.frozen? ⟨g,0,U⟩=false:=fq x g 0 _ _ y.1;rw[z] at q0 y;have HQ:=H9 y;clear y b m C))
 all_goals
  go_wp2;go_end0
  rw[HE.o];first
   | exact⟨rfl,Ls HB1 HT.o ((eY _ _).alloc (aM _) _) HQ.o.2.1 HQ.o.2.2⟩
   | exact⟨rfl,Ls HB2.o HT.o (eY _ _) HQ.o.2.1 HQ.o.2.2⟩
end Go.Proofs.YthhklgjjnaeaoaaGreatDoor