/- Small texts, one behind the other: TdB, TdC, TdD. -/
import Derived.Test.YtjmndjmhjleabaaGreatDoorPk25
import Derived.Deep.RegionLaw
import Derived.Deep.AppendLies
open Go.Value renaming int->I,string->V,slice->Z,pointer->Q
open Go.IntKind renaming i64->J
open Go.Obj renaming cells->K
open Go.Ending renaming returned->Y
open Option renaming none->U,some->M
open Or renaming inl->A,inr->R
open Go renaming World->X
set_option maxHeartbeats 4000000
set_option maxRecDepth 100000
open Go.Proofs.Tryz
namespace Go.Proofs.YtjmndjmhjleabaaGreatDoor
open Go.RowKit
theorem Mg:(prog.info? 72).map (fun i=>(i.zero,i.size,i.bytes))=M (M (.agg #[I J 0,V ⟨#[]⟩,V ⟨#[]⟩,I J 0,Z U 0 0,I J 0,Z U 0 0,V ⟨#[]⟩,V ⟨#[]⟩,V ⟨#[]⟩,Z U 0 0,I J 0]),12,184):=by kernel_rfl
theorem Xh {c:X}{S:Nat->Prop}{g:Nat}{x y:Value}{gV:aj}{b n:Nat}{es:List iM}(f:c.heap[g]? = M (K #[x,y] 268 (0,0)))(i:S g)(ha:pF c (fun k=>S k∧k≠g) 72 gV b es)(j:n=es.length):
 jS ((c.setCell ⟨g,0,U⟩ (Z gV n b)).setCell ⟨g,1,U⟩ (Z U 0 0)) S g gV b U 0 ⟨es,[]⟩∧Turns (fun k=>k=g) c ((c.setCell ⟨g,0,U⟩ (Z gV n b)).setCell ⟨g,1,U⟩ (Z U 0 0)):=by
 subst j;have d:Turns (fun k=>k=g) c ((c.setCell ⟨g,0,U⟩ (Z gV es.length b)).setCell ⟨g,1,U⟩ (Z U 0 0)):=(Turns.setCell (fun k=>k=g) c ⟨g,0,U⟩ _ rfl).trans (Turns.setCell (fun k=>k=g) _ ⟨g,1,U⟩ _ rfl) (fun _ e _=>e);refine⟨⟨?_,?_,iD.nil _ _ _,fun a e=>(by cases e),i⟩,d⟩
 . have l:(c.setCell ⟨g,0,U⟩ (Z gV es.length b)).heap[g]? = M (K #[Z gV es.length b,y] 268 (0,0)):=by rw[fM c g 0 _ _ _ f];rfl
   rw[fM _ g 1 _ _ _ l];rfl
 . exact(ha.turns d (fun k e=>e.2)).mono (fun k _ e=>⟨e,by simp[gK]⟩)
theorem OU (w:X)(S:Nat->Prop)(g:Nat)(ao:aj)(cap:Nat)(bo:aj)(a:Nat)(es:List iM)(h:jS w S g ao cap bo a ⟨es,[]⟩):
 Calls prog 235 #[Q (M ⟨g,0,U⟩)] w fun e w'=>e=Y (Z ao es.length cap)∧w'=w:=by
 have b:w.cell? ⟨g,0,U⟩=M (Z ao es.length cap):=h.c0;have c:w.cell? ⟨g,1,U⟩=M (Z bo 0 a):=h.c1;clear h;generalize es.length=n at *;go_enter func235,ntmps235;go_wp2;go_ret;exact⟨rfl,rfl⟩
theorem OV (w:X)(S:Nat->Prop)(g:Nat)(ao:aj)(cap:Nat)(bo:aj)(c n nb:Nat)(t:Fm.Td)(h:jS w S g ao cap bo c t)(T:t.bs≠[])(G:t.es.length=n)(hl:n<=100000)(d:t.bs.length=nb):
 Calls prog 235 #[Q (M ⟨g,0,U⟩)] w fun e w'=>∃gV q,e=Y (Z gV (n+1) q)∧jS w' (gM S w) g gV q U 0 ⟨t.es++[jX t.bs],[]⟩∧Turns S w w':=by
 have c0:w.cell? ⟨g,0,U⟩=M (Z ao n cap):=G▸h.c0;have c1:w.cell? ⟨g,1,U⟩=M (Z bo nb c):=d▸h.c1;have hnp:0<nb:=by rw[<-d];exact fD.2 T
 have t0:decide ((nb:Int) > 0)=true:=aH (by omega);obtain⟨ps,H,L⟩:=h.all.push (K #[I J 2,V ⟨#[]⟩,V ⟨#[]⟩,I J 0,Z U 0 0,I J 0,Z bo nb c,V ⟨#[]⟩,V ⟨#[]⟩,V ⟨#[]⟩,Z U 0 0,I J 0] 72);rw[G] at H L;have v:∀k,gK ao=M k->(S k∧k≠g)∧gK bo≠M k:=fun k e=>by
  obtain⟨_,_,_,hm,_⟩:=h.all;cases ao with
  | none=>cases e
  | some a=>injection e with e;subst e;exact hm a rfl
 have HK:Hid (∀N,(w.alloc (K #[I J 2,V ⟨#[]⟩,V ⟨#[]⟩,I J 0,Z U 0 0,I J 0,Z bo nb c,V ⟨#[]⟩,V ⟨#[]⟩,V ⟨#[]⟩,Z U 0 0,I J 0] 72)).drew.grownBy N (Value.slice ao n cap).ownBlock->N.heap[g]? = M (K #[Z ao n cap,Z bo nb c] 268 (0,0))):=fun N x=>by
  rw[gN] at x;have W:=((fI _ w).alloc (aL _) (K #[I J 2,V ⟨#[]⟩,V ⟨#[]⟩,I J 0,Z U 0 0,I J 0,Z bo nb c,V ⟨#[]⟩,V ⟨#[]⟩,V ⟨#[]⟩,Z U 0 0,I J 0] 72)).block g h.lt;have h2:=x.block g (by show g<(w.alloc _).heap.size;rw[fV];have:=h.lt;omega) (fun e=>(v g e.symm).1.2 rfl);have l:=h.row;rw[G,d] at l;exact h2.trans (W.trans l)
 have O:=(fI _ w).alloc (aL _) (K #[I J 2,V ⟨#[]⟩,V ⟨#[]⟩,I J 0,Z U 0 0,I J 0,Z bo nb c,V ⟨#[]⟩,V ⟨#[]⟩,V ⟨#[]⟩,Z U 0 0,I J 0] 72);have c0a:=(O.cell (p:=⟨g,0,U⟩) h.lt).trans c0;have c1a:=(O.cell (p:=⟨g,1,U⟩) h.lt).trans c1;clear O;have HO:=H9 (gU.stay H (gP _ _));have UU:Hid (∀j u,((jX t.bs).cells ⟨U,0,bo,c,U,0⟩)[j]? = M u->(w.alloc (K #[I J 2,V ⟨#[]⟩,V ⟨#[]⟩,I J 0,Z U 0 0,I J 0,Z bo nb c,V ⟨#[]⟩,V ⟨#[]⟩,V ⟨#[]⟩,Z U 0 0,I J 0] 72)).drew.cell? (Addr.add ⟨w.heap.size,0,U⟩ j)=M u):=fun j u hu=>by
  rw[gH,aZ];show(w.alloc _).cell? _=_;rw[World.cell?_alloc_at _ _ _ _ rfl,<-d,dG];exact hu
 have P:Hid (xY w (fun k=>gK bo=M k) (jX t.bs) ⟨U,0,bo,c,U,0⟩):=⟨nD.nil _ _,⟨h.own.wZ,fun _ a e=>by have e:bo=M a:=e;rw[e];rfl⟩,jZ.nil _ _⟩;have HP:=H9 L;have m:=H9 h;obtain⟨i0,y,z,B,C⟩:=info_parts Mg;have Hi:=H9 y;have kJ:=H9 z;have kG:=H9 B;have kK:=H9 C
 have HN:Hid (n+1<=maxLen∧(n+1)*184<=140737488355328):=⟨by unfold maxLen;omega,by omega⟩;clear y z B C H L v h T G d;go_enter func235,ntmps235;go_wp2;go_region_law
  ((refine step_append_lies _ (by rfl) _ _ _ (by rfl) 0 72 i0 (.agg #[I J 0,V ⟨#[]⟩,V ⟨#[]⟩,I J 0,Z U 0 0,I J 0,Z U 0 0,V ⟨#[]⟩,V ⟨#[]⟩,V ⟨#[]⟩,Z U 0 0,I J 0]) 12 184 underlying58 Hi.o kJ.o kG.o kK.o (by rfl) (by decide) (Z ao n cap) n _ (by rfl) HO.o ⟨w.heap.size,0,U⟩ 1 1 ((jX t.bs).cells ⟨U,0,bo,c,U,0⟩) (by rfl) (by rfl) UU.o (cells_one _ _) (by decide) HN.o.1 HN.o.2 (ay _) (w.heap.size+1) (by simp) ?_;intro g3 gW i f b ku hlt3;have l:=HK.o _ b;have q0:i.cell? ⟨g,0,U⟩=M (Z ao n cap):=fJ i g 0 _ _ _ l;have q1:i.cell? ⟨g,1,U⟩=M (Z bo nb c):=fJ i g 1 _ _ _ l;have f0:i.frozen? ⟨g,0,U⟩=false:=fK i g 0 _ _ l;have f1:i.frozen? ⟨g,1,U⟩=false:=fK i g 1 _ _ l;have r:=H9 l;have sF:=H9 b;have oC:=H9 f;have Jg:=H9 ku;clear b f ku l))
 all_goals
  go_wp2;go_ret;have x:=sF.o;have D:=Jg.o;rw[gN] at x D;obtain⟨r1,r2⟩:=HP.o (M ⟨g3,0,U⟩) gW i (jX t.bs) ⟨U,0,bo,c,U,0⟩ (fun k=>gK bo=M k) _ rfl P.o ⟨rfl,rfl⟩ (fun k e=>e.2) oC.o (jV (rz _ _) x) (by
   rcases D with e | e
   . exact A e.symm
   . exact R (by rw[fV,e];rfl))
  have hlt:=m.o.lt;have r3:pF i (fun k=>gM S w k∧k≠g) 72 (M ⟨g3,0,U⟩) gW (t.es++[jX t.bs]):=r1.mono (fun k _ e=>by
   rcases e with e | e | e
   . exact⟨A e.1.1,e.1.2⟩
   . cases bo with
     | none=>cases e
     | some a=>injection e with e;subst e;exact⟨A (m.o.mem a rfl).1,(m.o.mem a rfl).2⟩
   . exact⟨R e,by omega⟩)
  have r4:=Xh r.o (S:=gM S w) (A m.o.me) r3 (n:=n+1) (by rw[aV];exact bD (·+1) (by obtain⟨qs,hq,hw,_⟩:=m.o.all;have W:=m.o.row;have h2:=r.o;have:=m.o.c0;have h4:=q0;exact(by
   have s:=r2.row m.o.row (fun e=>e.1.2 rfl);rw[r.o] at s;injection s with s;injection s with s;have:=bD (fun a:Array Value=>a[0]?) s;simpa using this)))
  exact⟨_,_,rfl,r4.1,(r2.mono (fun k e=>e.1.1)).trans (r4.2.mono (S':=S) (fun k e=>by subst e;exact m.o.me)) (fun _ e _=>e)⟩
theorem TB {w c:X}{S:Nat->Prop}{g:Nat}{ao bo d:aj}{cap r b n:Nat}{t:Fm.Td}{l:au}(h:jS w S g ao cap bo r t)(s:iD c 0 5 d b (t.bs++l))(u:w.grownBy c (gK bo))(f:gK d=gK bo∨gK d=M w.heap.size)(v:n=(t.bs++l).length):
 jS (c.setCell ⟨g,1,U⟩ (Z d n b)) (gM S w) g ao cap d b ⟨t.es,t.bs++l⟩∧Turns S w (c.setCell ⟨g,1,U⟩ (Z d n b)):=by
 subst v;have x:=h.lt;have i:Turns (fun k=>gK bo=M k) w c:=Turns.iY u (fun k e=>e);have j:∀k,gK bo=M k->S k∧k≠g:=fun k e=>by
  cases bo with
  | none=>cases e
  | some a=>injection e with e;subst e;exact h.mem a rfl
 have y:=i.row h.row (fun e=>(j g e).2 rfl);have q:Turns (fun k=>k=g) c (c.setCell ⟨g,1,U⟩ (Z d (t.bs++l).length b)):=Turns.setCell (fun k=>k=g) c ⟨g,1,U⟩ _ rfl;have o:∀a,d=M a->gM S w a.block∧a.block≠g:=fun a e=>by
  rw[e] at f;rcases f with m | m
  . have:=j a.block m.symm;exact⟨A this.1,this.2⟩
  . injection m with m;exact⟨R (by omega),by omega⟩
 refine⟨⟨?_,?_,s.turns q (fun a e=>(o a e).2),o,A h.me⟩,(i.mono (fun k e=>(j k e).1)).trans (q.mono (S':=S) (fun k e=>by subst e;exact h.me)) (fun _ e _=>e)⟩
 . rw[fM c g 1 _ _ _ y];rfl
 . have z:=(h.all.mono (S':=fun k=>((S k∧k≠g)∧gK bo≠M k)∧k<w.heap.size) (fun k B e=>⟨e,B⟩)).turns i (fun k e=>e.1.2);refine(z.turns q (fun k e=>e.1.1.2)).mono (fun k _ e=>⟨⟨A e.1.1.1,e.1.1.2⟩,fun m=>?_⟩);rcases f with p | p
   . exact e.1.2 (p.symm.trans m)
   . rw[m] at p;injection p with p;have:=e.2;omega
theorem JH (w:X)(S:Nat->Prop)(g:Nat)(t:Fm.Td)(s:aj)(u m:Nat)(l:au)(h:nk w S g t)(v:iG w s u l)(x:l.length=m)(O:t.bs.length+m<=1000000):
 Calls prog 293 #[Q (M ⟨g,0,U⟩),Z s m u] w fun e w'=>e=Y (.tuple #[])∧nk w' (gM S w) g ⟨t.es,t.bs++l⟩∧Turns S w w':=by
 obtain⟨ao,P,f,y,h⟩:=h;obtain⟨nb,b⟩:∃nb,t.bs.length=nb:=⟨_,rfl⟩;have T:w.cell? ⟨g,1,U⟩=M (Z f nb y):=b▸h.c1;have z:=H9 h;have W:=H9 v;have B:=H9 x;have C:=H9 b
 have d:gK f≠M g:=fun e=>by
  cases f with
  | none=>cases e
  | some a=>injection e with e;exact(h.mem a rfl).2 e
 have D:Hid (∀i,w.grownBy i (gK f)->i.cell? ⟨g,1,U⟩=M (Z f nb y)∧i.frozen? ⟨g,1,U⟩=false):=fun i G=>by
  have h1:=G.block g h.lt (fun e=>d e.symm);have h2:=h1.trans h.row;exact⟨(G.cell T (fun e=>d e.symm)),fK i g 1 _ _ h2⟩
 rw[b] at O;obtain⟨i0,j,k,p,q⟩:=info_parts jN;have Hi:=H9 j;have kJ:=H9 k;have kG:=H9 p;have kK:=H9 q
 clear j k p q h v x b d;go_enter func293,ntmps293;go_wp2_with (at_builtin;refine iI rfl (.tmp 8) (.tmp 9) 31 rfl 0 5 i0 underlying31 Hi.o kJ.o kG.o kK.o (l:=t.bs) (l2:=l) rfl C.o z.o.own rfl B.o W.o (by omega) (ay _) ?_;intro jP gW H r c L;have q1:=(D.o H c).1;have qf:=(D.o H c).2;have oC:=H9 r;have sF:=H9 c;have Jg:=H9 L;clear r c L)
 have N:=TB z.o oC.o sF.o Jg.o (n:=nb+m) (by rw[aV,C.o,B.o]);go_end0
 exact⟨rfl,⟨_,_,_,_,N.1⟩,N.2⟩
def vJ (k:Int)(pn pf pt:av)(c:Int):iM:=⟨k,⟨#[]⟩,⟨#[]⟩,0,[],0,[],pn,pf,pt,[],c⟩
theorem IG (w:X)(S:Nat->Prop)(g:Nat)(t:Fm.Td)(h:nk w S g t)(i:t.es.length<=100000):
 Calls prog 235 #[Q (M ⟨g,0,U⟩)] w fun e w'=>∃ao cap bo a,e=Y (Z ao (Fm.flush t).length cap)∧jS w' (gM S w) g ao cap bo a ⟨Fm.flush t,[]⟩∧Turns S w w':=by
 obtain⟨ao,cap,bo,a,h⟩:=h;obtain⟨es,bs⟩:=t;by_cases c:bs=[]
 . subst c;have d:Fm.flush ⟨es,[]⟩=es:=by unfold Fm.flush Fm.nS;simp
   rw[d];refine(OU w S g ao cap bo a es h).mono ?_;rintro e w' ⟨f,j⟩;subst j;exact⟨ao,cap,bo,a,f,h.mono (fun k _ e=>A e),Turns.refl _ _⟩
 . have d:Fm.flush ⟨es,bs⟩=es++[jX bs]:=by unfold Fm.flush Fm.nS;simp[c]
   rw[d];refine(OV w S g ao cap bo a es.length bs.length ⟨es,bs⟩ h c rfl i rfl).mono ?_;rintro e w' ⟨l,b,f,m,n⟩;exact⟨l,b,U,0,by rw[f];simp,m,n⟩
theorem pF.grow {W:X}{S:Nat->Prop}{d:Nat}{ao:aj}{cap:Nat}{es:List iM}(h:pF W S d ao cap es):∃f:List (iM×EvS),gU W 0 d 12 ao cap es.length (iW f) ∧
 ∀gV b w' (e:iM) s (N:Nat->Prop) g,e.cells s=g->xY W N e s->s.po=U∧s.jy=0->(∀k,S k->¬N k)->gU w' 0 d 12 gV b (es.length+1) (iW f++g)->W.grownBy w' (gK ao)->(gK gV=gK ao∨gK gV=M W.heap.size)->pF w' (fun k=>S k∨N k∨W.heap.size<=k) d gV b (es++[e])∧Turns S W w':=by
 obtain⟨f,c,q,m,r,t⟩:=h;refine⟨f,q,fun gV b w' e s N g u v i w n o j=>?_⟩;subst u;have x:iW [(e,s)]=e.cells s:=by simp[iW]
 rw[<-x] at n;have:=pF.more (N:=N) m r (ps2:=[(e,s)]) (fun p l=>by rw[bB.1 l];exact v) w n (by rw[<-c,aD];rfl) o j t (fun p l=>by rw[bB.1 l];exact i);refine⟨?_,Turns.iY (S:=S) o (fun k e=>?_)⟩
 . rw[c] at this;refine this.mono (fun k y e=>?_);rcases e with e | e | e
   . exact A e
   . exact R (A e)
   . exact R (R (by omega))
 . cases ao with
   | none=>cases e
   | some a=>injection e with e;subst e;exact m a rfl
theorem jS.grow {W:X}{S:Nat->Prop}{g:Nat}{ao bo:aj}{cap n:Nat}{es:List iM}(h:jS W S g ao cap bo n ⟨es,[]⟩):∃xs,gU W 0 72 12 ao cap es.length xs ∧
 ∀b f d k j l m c, gU d 0 72 12 (M ⟨b, 0, U⟩) f (es.length + 1) (xs ++ (vJ k j l m c).cells ⟨U, 0, U, 0, U, 0⟩) -> W.grownBy d (gK ao) -> (gK ao = M b ∨ b = W.heap.size) ->
   d.heap[g]? = M (K #[Z ao es.length cap,Z bo 0 n] 268 (0,0))∧jS (d.setCell ⟨g,0,U⟩ (Z (M ⟨b,0,U⟩) (es.length+1) f)) (gM S W) g (M ⟨b,0,U⟩) f bo n ⟨es++[vJ k j l m c],[]⟩∧Turns S W (d.setCell ⟨g,0,U⟩ (Z (M ⟨b,0,U⟩) (es.length+1) f)):=by
 obtain⟨u,v,w⟩:=h.all.grow;refine⟨iW u,v,fun b f d k j l m c o x p=>?_⟩;obtain⟨y,q⟩:=w (M ⟨b,0,U⟩) f d (vJ k j l m c) ⟨U,0,U,0,U,0⟩ (fun _=>False) _ rfl ⟨nD.nil _ _,jZ.nil _ _,jZ.nil _ _⟩ ⟨rfl,rfl⟩ (fun _ _ e=>e) o x (by
  rcases p with e | e
  . exact A e.symm
  . exact R (by rw[e];rfl))
 have z:=h.lt;have t:=q.row h.row (fun e=>e.1.2 rfl);have r:Turns (fun i=>i=g) d (d.setCell ⟨g,0,U⟩ (Z (M ⟨b,0,U⟩) (es.length+1) f)):=Turns.setCell (fun i=>i=g) d ⟨g,0,U⟩ _ rfl;refine⟨t,⟨?_,?_,?_,fun a e=>⟨A (h.mem a e).1,(h.mem a e).2⟩,A h.me⟩,(q.mono (fun i e=>e.1.1)).trans (r.mono (S':=S) (fun i e=>by subst e;exact h.me)) (fun _ e _=>e)⟩
 . rw[fM d g 0 _ _ _ t];show M (Obj.cells #[Z (M ⟨b,0,U⟩) (es.length+1) f,Z bo 0 n] _ _)=M (Obj.cells #[Z (M ⟨b,0,U⟩) (es++[vJ k j l m c]).length f,Z bo 0 n] _ _);rw[aV];rfl
 . have B:pF d (fun i=>(gM S W i∧i≠g)∧gK bo≠M i) 72 (M ⟨b,0,U⟩) f (es++[vJ k j l m c]):=y.mono (fun i _ e=>by
    rcases e with e | e | e
    . exact⟨⟨A e.1.1,e.1.2⟩,e.2⟩
    . exact e.elim
    . refine⟨⟨R e,by omega⟩,fun s=>?_⟩;cases bo with
      | none=>cases s
      | some a=>injection s with s;have:=(h.own.block a rfl).2;omega)
   exact B.turns r (fun i e=>e.1.2)
 . exact(h.own.turns q (fun a e k=>k.2 (by rw[e];rfl))).turns r (fun a e=>(h.mem a e).2)
theorem Mh {w W c d b:X}{S:Nat->Prop}{g:Nat}{t:Fm.Td}{ao bo:aj}{cap l:Nat}(f:Below w.heap.size w W)(j:Turns (fun i=>S i∧i<w.heap.size) W c)(a:Below c.heap.size c d)(m:jS b (gM (gM (fun i=>S i∧i<w.heap.size) W) d) g ao cap bo l t)(n:Turns (gM (fun i=>S i∧i<w.heap.size) W) d b):nk b (gM S w) g t∧Turns S w b:=by
 have o:=f.size;have p:=j.size;have q:=a.size
 refine⟨⟨_,_,_,_,m.mono (fun k _ e=>?_)⟩,?_⟩
 . rcases e with e | e
   . rcases e with e | e
     . exact A e.1
     . exact R (by omega)
   . exact R (by omega)
 . refine(((Turns.of_below (S:=S) f).trans (j.mono (S':=S) (fun i e=>e.1)) (fun _ e _=>e)).trans (Turns.of_below (S:=S) a) (fun _ e _=>e)).trans n (fun i e r=>?_);rcases e with e | e
   . exact e.1
   . omega
theorem xU (w:X)(S:Nat->Prop)(g:Nat)(t:Fm.Td)(k:Int)(d f l:av)(c:Int)(h:nk w S g t)(hk:k≠2)(hl:t.es.length<=90000):
 Calls prog 234 #[Q (M ⟨g,0,U⟩),.agg #[I J k,V ⟨#[]⟩,V ⟨#[]⟩,I J 0,Z U 0 0,I J 0,Z U 0 0,V d,V f,V l,Z U 0 0,I J c]] w fun e w'=>e=Y (.tuple #[])∧nk w' (gM S w) g (Fm.tell t (vJ k d f l c))∧Turns S w w':=by
 have HE:Hid (Fm.tell t (vJ k d f l c)=⟨Fm.flush t++[vJ k d f l c],[]⟩):=by unfold Hid Fm.tell;exact if_neg hk
 have hfl:(Fm.flush t).length<=90001:=by
  unfold Fm.flush Fm.nS;rw[aV];split <;> simp <;> omega
 have HA:Hid (∀W,nk W (fun i=>S i∧i<w.heap.size) g t->Calls prog 235 #[Q (M ⟨g,0,U⟩)] W fun e w'=>∃L p bo bc,e=Y (Z L (Fm.flush t).length p)∧jS w' (gM (fun i=>S i∧i<w.heap.size) W) g L p bo bc ⟨Fm.flush t,[]⟩∧Turns (fun i=>S i∧i<w.heap.size) W w'):=fun W hW=>IG W _ g t hW (by omega);have h0:nk w (fun i=>S i∧i<w.heap.size) g t:=h.mono (fun i hi e=>⟨e,hi⟩);have B:Below w.heap.size w (w.alloc (K #[I J k,V ⟨#[]⟩,V ⟨#[]⟩,I J 0,Z U 0 0,I J 0,Z U 0 0,V d,V f,V l,Z U 0 0,I J c] 72)).drew:=((fI _ w).alloc (aL _) _).trans (gP _ _);have C:Below w.heap.size w ((w.alloc (K #[I J k,V ⟨#[]⟩,V ⟨#[]⟩,I J 0,Z U 0 0,I J 0,Z U 0 0,V d,V f,V l,Z U 0 0,I J c] 72)).alloc (K #[I J k,V ⟨#[]⟩,V ⟨#[]⟩,I J 0,Z U 0 0,I J 0,Z U 0 0,V d,V f,V l,Z U 0 0,I J c] 72)).drew:=(((fI _ w).alloc (aL _) _).alloc (by rw[fV];omega) _).trans (gP _ _);have HT1:=H9 (h0.stay B);have HT2:=H9 (h0.stay C)
 have ZK:Hid (S g):=by obtain⟨_,_,_,_,h⟩:=h;exact h.me
 have HB1:=H9 B;have HB2:=H9 C
 have Tk:Hid (∀a,Turns (fun i=>S i∧i<w.heap.size) (w.alloc (K #[I J k,V ⟨#[]⟩,V ⟨#[]⟩,I J 0,Z U 0 0,I J 0,Z U 0 0,V d,V f,V l,Z U 0 0,I J c] 72)).drew a->a.heap[w.heap.size]? = M (K #[I J k,V ⟨#[]⟩,V ⟨#[]⟩,I J 0,Z U 0 0,I J 0,Z U 0 0,V d,V f,V l,Z U 0 0,I J c] 72 (0,0))):=fun a s=>s.row (fH w _) (fun e=>by have:=e.2;omega);have WU:Hid (∀a,Turns (fun i=>S i∧i<w.heap.size) ((w.alloc (K #[I J k,V ⟨#[]⟩,V ⟨#[]⟩,I J 0,Z U 0 0,I J 0,Z U 0 0,V d,V f,V l,Z U 0 0,I J c] 72)).alloc (K #[I J k,V ⟨#[]⟩,V ⟨#[]⟩,I J 0,Z U 0 0,I J 0,Z U 0 0,V d,V f,V l,Z U 0 0,I J c] 72)).drew a->∀j u,((vJ k d f l c).cells ⟨U,0,U,0,U,0⟩)[j]? = M u->a.cell? (Addr.add ⟨w.heap.size+1,0,U⟩ j)=M u):=fun a s j u hu=>by
  have h1:((w.alloc (K #[I J k,V ⟨#[]⟩,V ⟨#[]⟩,I J 0,Z U 0 0,I J 0,Z U 0 0,V d,V f,V l,Z U 0 0,I J c] 72)).alloc (K #[I J k,V ⟨#[]⟩,V ⟨#[]⟩,I J 0,Z U 0 0,I J 0,Z U 0 0,V d,V f,V l,Z U 0 0,I J c] 72)).drew.heap[w.heap.size+1]? = M (K #[I J k,V ⟨#[]⟩,V ⟨#[]⟩,I J 0,Z U 0 0,I J 0,Z U 0 0,V d,V f,V l,Z U 0 0,I J c] 72 (0,0)):=by
   have:=fH (w.alloc (K #[I J k,V ⟨#[]⟩,V ⟨#[]⟩,I J 0,Z U 0 0,I J 0,Z U 0 0,V d,V f,V l,Z U 0 0,I J c] 72)) (K #[I J k,V ⟨#[]⟩,V ⟨#[]⟩,I J 0,Z U 0 0,I J 0,Z U 0 0,V d,V f,V l,Z U 0 0,I J c] 72);rw[fV] at this;exact this
  have h2:=s.row h1 (fun e=>by have:=e.2;omega);rw[gH,aZ,fJ a (w.heap.size+1) j _ _ _ h2,dG];exact hu
 have HX3:Hid (∀(a:X) j u,((vJ k d f l c).cells ⟨U,0,U,0,U,0⟩)[j]? = M u->(a.alloc (K #[I J k,V ⟨#[]⟩,V ⟨#[]⟩,I J 0,Z U 0 0,I J 0,Z U 0 0,V d,V f,V l,Z U 0 0,I J c] 72)).cell? (Addr.add ⟨a.heap.size,0,U⟩ j)=M u):=fun a j u hu=>by
  rw[gH,aZ,World.cell?_alloc_at _ _ _ _ rfl,dG];exact hu
 obtain⟨i0,N,O,P,T⟩:=info_parts Mg;have Hi:=H9 N;have kJ:=H9 O;have kG:=H9 P;have kK:=H9 T
 have II:Hid ((Fm.flush t).length+1<=maxLen∧((Fm.flush t).length+1)*184<=140737488355328):=⟨by unfold maxLen;omega,by omega⟩;generalize (Fm.flush t)=fl at *;obtain⟨n,hn⟩:∃n,fl.length=n:=⟨_,rfl⟩;rw[hn] at HA II;have q:=H9 hn;clear N O P T h h0 B C hl hfl hn hk;go_enter func234,ntmps234;go_wp2;go_region_law (first
  | (go_simp;go_at_call 235;refine(HA.o _ HT1.o).mono ?_;rintro e a ⟨L,p,bo,bc,rfl,hR,s⟩;have r:=Tk.o _ s;have x0:a.cell? ⟨w.heap.size,0,U⟩=_:=fJ a _ 0 _ _ _ r;have x1:a.cell? ⟨w.heap.size,1,U⟩=_:=fJ a _ 1 _ _ _ r;have x2:a.cell? ⟨w.heap.size,2,U⟩=_:=fJ a _ 2 _ _ _ r;have x3:a.cell? ⟨w.heap.size,3,U⟩=_:=fJ a _ 3 _ _ _ r;have x4:a.cell? ⟨w.heap.size,4,U⟩=_:=fJ a _ 4 _ _ _ r;have x5:a.cell? ⟨w.heap.size,5,U⟩=_:=fJ a _ 5 _ _ _ r;have x6:a.cell? ⟨w.heap.size,6,U⟩=_:=fJ a _ 6 _ _ _ r;have x7:a.cell? ⟨w.heap.size,7,U⟩=_:=fJ a _ 7 _ _ _ r;have x8:a.cell? ⟨w.heap.size,8,U⟩=_:=fJ a _ 8 _ _ _ r;have x9:a.cell? ⟨w.heap.size,9,U⟩=_:=fJ a _ 9 _ _ _ r;have x10:a.cell? ⟨w.heap.size,10,U⟩=_:=fJ a _ 10 _ _ _ r;have x11:a.cell? ⟨w.heap.size,11,U⟩=_:=fJ a _ 11 _ _ _ r;simp only[dG,List.getElem?_cons_zero,List.getElem?_cons_succ] at x0 x1 x2 x3 x4 x5 x6 x7 x8 x9 x10 x11;have HT:=H9 s;obtain⟨xs,v,x⟩:=(hR.stay ((fI _ _).alloc (aL _) (K #[I J k,V ⟨#[]⟩,V ⟨#[]⟩,I J 0,Z U 0 0,I J 0,Z U 0 0,V d,V f,V l,Z U 0 0,I J c] 72))).grow;have D:=H9 v;have G:=H9 x;clear s r hR v x)
  | (go_simp;go_at_call 235;refine(HA.o _ HT2.o).mono ?_;rintro e a ⟨L,p,bo,bc,rfl,hR,s⟩;have HXc:=H9 (WU.o _ s);have HT:=H9 s;obtain⟨xs,v,x⟩:=hR.grow;have D:=H9 v;have G:=H9 x;clear s hR v x)
  | (refine step_append_lies _ (by rfl) _ _ _ (by rfl) 0 72 i0 (.agg #[I J 0,V ⟨#[]⟩,V ⟨#[]⟩,I J 0,Z U 0 0,I J 0,Z U 0 0,V ⟨#[]⟩,V ⟨#[]⟩,V ⟨#[]⟩,Z U 0 0,I J 0]) 12 184 underlying58 Hi.o kJ.o kG.o kK.o (by rfl) (by decide) (Z L n p) n _ (by rfl) (q.o▸D.o) ⟨a.heap.size,0,U⟩ 1 1 ((vJ k d f l c).cells ⟨U,0,U,0,U,0⟩) (by rfl) (by rfl) (HX3.o a) (cells_one _ _) (by decide) II.o.1 II.o.2 (ay _) (a.heap.size+1) (by simp) ?_;intro g3 gW y m b H hlt3;rw[gN] at b H;have z:=G.o g3 gW y k d f l c (q.o.symm▸m) b (by simpa using H);have q0:y.cell? ⟨g,0,U⟩=_:=fJ y g 0 _ _ _ z.1;have f0:y.frozen? ⟨g,0,U⟩=false:=fK y g 0 _ _ z.1;rw[q.o] at q0 z;have HQ:=H9 z;clear z b m H)
  | (refine step_append_lies _ (by rfl) _ _ _ (by rfl) 0 72 i0 (.agg #[I J 0,V ⟨#[]⟩,V ⟨#[]⟩,I J 0,Z U 0 0,I J 0,Z U 0 0,V ⟨#[]⟩,V ⟨#[]⟩,V ⟨#[]⟩,Z U 0 0,I J 0]) 12 184 underlying58 Hi.o kJ.o kG.o kK.o (by rfl) (by decide) (Z L n p) n _ (by rfl) (q.o▸D.o) ⟨w.heap.size+1,0,U⟩ 1 1 ((vJ k d f l c).cells ⟨U,0,U,0,U,0⟩) (by rfl) (by rfl) HXc.o (cells_one _ _) (by decide) II.o.1 II.o.2 (ay _) a.heap.size (by rfl) ?_;intro g3 gW y m b H hlt3;rw[gN] at b H;have z:=G.o g3 gW y k d f l c (q.o.symm▸m) b (by simpa using H);have q0:y.cell? ⟨g,0,U⟩=_:=fJ y g 0 _ _ _ z.1;have f0:y.frozen? ⟨g,0,U⟩=false:=fK y g 0 _ _ z.1;rw[q.o] at q0 z;have HQ:=H9 z;clear z b m H))
 all_goals
  go_wp2;go_end0
  rw[HE.o];first
   | exact⟨rfl,Mh HB1.o HT.o ((fI _ _).alloc (aL _) _) HQ.o.2.1 HQ.o.2.2⟩
   | exact⟨rfl,Mh HB2.o HT.o (fI _ _) HQ.o.2.1 HQ.o.2.2⟩
end Go.Proofs.YtjmndjmhjleabaaGreatDoor