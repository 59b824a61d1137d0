import Derived.Test.YtodmelffkfbalaaGreatDoorPk12
import Derived.Test.YtodmelffkfbalaaGreatDoorPk22
import Derived.Test.YtodmelffkfbalaaGreatDoorFlB
open Go.Value renaming int->I,string->V,slice->Z,pointer->Q
open Go.IntKind renaming i64->J
open Go.Obj renaming cells->K
open Go.Ending renaming returned->Y
open Option renaming none->U,some->M
open Bool renaming false->F
open Or renaming inl->A
open Go renaming World->X
set_option maxHeartbeats 1600000
set_option maxRecDepth 100000
open Go.Proofs.Tryz
namespace Go.Proofs.YtodmelffkfbalaaGreatDoor
open Go.RowKit
abbrev cD (w:X)(S:Nat->Prop)(g:Nat)(s:aA):Prop:=gI w S 141 92 5 g s
theorem L2 (i z t a:Int)(m:ae)(bo:ag)(n fZ b:Nat)(w:X)(c:w.cell? ⟨b,0,U⟩=M (I J a)):
 Calls prog 134 #[.agg #[I J i,I J z,V m,Z bo n fZ,I J t],Q (M ⟨b,0,U⟩)] w fun e w'=>e=Y (.bool (decide (i=a)))∧w'=w.alloc (K #[I J i,I J z,V m,Z bo n fZ,I J t] 92):=by
 have d:=bY w _ c;have f:(w.alloc (K #[I J i,I J z,V m,Z bo n fZ,I J t] 92)).cell? ⟨b,0,U⟩=M (I J a):=by
  rw[((ar w.heap.size w).alloc (ak _) _).cell (p:=⟨b,0,U⟩) d];exact c
 go_enter func134,ntmps134;go_wp2;go_ret;exact⟨rfl,rfl⟩
theorem I9 (l:List aL)(a:Int)(ao:ag)(cap n b:Nat)(w:X)(D:qb w ao cap l)(y:n<=cap)(G:l.length=n)(hN:n<=1000000)(z:w.cell? ⟨b,0,U⟩=M (I J a)):
 Calls prog 133 #[Z ao n cap,.func (.func 134) #[] #[Q (M ⟨b,0,U⟩)]] w fun e w'=>e=Y (I J (pD l a))∧Below w.heap.size w w':=by
 subst G;have H:=bY w _ z;go_enter func133,ntmps133;go_wp2;go_loopw [8] (fun t wr=>∃k:Nat,k<=l.length∧t=I J k∧Below w.heap.size w wr∧∀p∈l.take k,p.c≠a) (fun t _=>l.length-(intOf t).toNat)
 case atStart=>exact⟨0,ax _,rfl,ar _ _,fun p u=>by simp at u⟩
 case round =>
  obtain⟨k,hk,rfl,j,d⟩:=hrel;by_cases f:k<l.length
  . obtain⟨bb,oo,s,rfl,L,N,S,T,W,_⟩:=(D.f j).a k f;have B:(k:Int)<l.length:=by omega
    have C:l.take (k+1)=l.take k++[l[k]]:=fR f;have q:=L2 l[k].c l[k].a l[k].e a l[k].d s.a l[k].b.length s.b b wr (by rw[j.cell (p:=⟨b,0,U⟩) H];exact z);have c:Below w.heap.size w (wr.alloc (K #[I J l[k].c,I J l[k].a,V l[k].d,Z s.a l[k].b.length s.b,I J l[k].e] 92)):=j.alloc j.size _;by_cases m:l[k].c=a
    . rw[br m] at q;have v:pD l a=k:=qF (GD l a k f m d);clear m  C;generalize l[k]=p at *;go_wp2_with fail;refine q.mono ?_;rintro e x ⟨rfl,o⟩;have g:Below w.heap.size w x:=by rw[o];exact c
      clear o c;go_wp2;go_ret;exact⟨by rw[v];rfl,g⟩
    . rw[ba m] at q;generalize l[k]=p at *;go_wp2_with fail;refine q.mono ?_;rintro e x ⟨rfl,o⟩;have g:Below w.heap.size w x:=by rw[o];exact c
      clear o c;go_wp2;go_roundw
      case rel =>
       refine⟨k+1,by omega,by go_num,g,fun r i=>?_⟩;rw[C,eC] at i;rcases i with i | i
       . exact d r i
       . rw[cY] at i;subst i;exact m
      case measure=>simp[intOf];omega
  . obtain rfl:k=l.length:=by omega
    have v:pD l a=-1:=qG (O7 l a fun p u=>d p (by rw[eQ];exact u));go_wp2;go_ret;exact⟨by rw[v];rfl,j⟩
theorem ri (s:aA)(S:Nat->Prop)(g:Nat)(b:Int)(w:X)(h:cD w S g s)(u:s.l.length<=1000):
 Calls prog 81 #[Q (M ⟨g,0,U⟩),I J b] w fun e w'=>e=Y (I J (pD s.l b))∧Below w.heap.size w w':=by
 have c:Below w.heap.size w (w.alloc (K #[I J b] 3)):=(ar _ _).alloc (ak _) _;have m:=h.r;obtain⟨i,a,d,n,o,q,v,x,j⟩:=h.j;have r:=I9 s.l b i a s.l.length w.heap.size (w.alloc (K #[I J b] 3)) (j.j.f c) j.f rfl (by omega) (World.cell?_alloc_mark w _ _ _ 0);have y:(w.alloc (K #[I J b] 3)).cell? ⟨g,0,U⟩=M (Z i s.l.length a):=by rw[c.cell (p:=⟨g,0,U⟩) m];exact d
 have z:∀(k:Fn) (first a:Array Value) (w:X),(Instr.makeFunc k first a).run prog w=.ok (.func k first a) w:=fun _ _ _ _=>rfl;generalize s.l=l at *;go_enter func81,ntmps81;go_wp2_with fail;refine r.mono ?_;rintro e B ⟨rfl,t⟩;have f:=au c t;go_wp2;go_ret;exact⟨rfl,f⟩
theorem PC (s:aA)(S:Nat->Prop)(g:Nat)(w:X)(h:cD w S g s)(D:s.l.length<=1000)(G:cF s.l<=1000000):
 Calls prog 295 #[Q (M ⟨g,0,U⟩)] w fun e w'=>e=Y (I J (cF s.l))∧Below w.heap.size w w':=by
 obtain⟨L,r,c,d,u,x,N,T,i⟩:=h.j;have H:=i.j;have j:=i.f;generalize s.l=l at *;go_enter func295,ntmps295;go_wp2;go_loopw [3,11] (fun v t wr=>∃k:Nat,k<=l.length∧t=I J k∧v=I J (cF (l.take k):Int)∧Below w.heap.size w wr) (fun _ t _=>l.length-(intOf t).toNat)
 case atStart=>exact⟨0,ax _,rfl,rfl,ar _ _⟩
 case round =>
  obtain⟨k,W,rfl,rfl,b⟩:=hrel;have hu:=GE l k;by_cases a:k<l.length
  . obtain⟨bb,oo,s,rfl,c,d,y,z,B,_⟩:=(H.f b).a k a;have m:(k:Int)<l.length:=by omega
    have C:cF (l.take (k+1))=cF (l.take k)+l[k].b.length:=Gz l k a;have n:=O6 l k a;have f:∀o,Below w.heap.size w (wr.alloc o):=fun o=>b.alloc b.size _;generalize l[k]=p at *;generalize cF (l.take k)=q at *;go_wp2;go_roundw
    case rel =>
     exact⟨k+1,by omega,by go_num,by rw[C];go_num,f _⟩
    case measure=>simp[intOf];omega
  . obtain rfl:k=l.length:=by omega
    go_wp2;go_ret;exact⟨by rw[eQ];rfl,b⟩
theorem sR (w:X)(n:Nat):Below w.heap.size w (w.drewN n):=⟨rfl,rfl,rfl,ak _,fun _ _=>rfl⟩
structure bE (S:Nat->Prop)(tO:Nat)(w:X)(g:Nat)(r:aA×Nat)(e:Ending)(w':X):Prop where
 d:e=Y (I J (r.2:Int))
 b:gI w' (ay S w) tO 92 5 g r.1
 c:am S w w'
def lc (w:X)(g gu n:Nat):Prop:=∃cap,n<=cap∧w.cell? ⟨g,0,U⟩=M (Z (M ⟨gu,0,U⟩) n cap)
section
variable {w w':X} {S:Nat->Prop} {tO g gu i:Nat} {s:aA}
theorem bE.a {c:Nat}(h:gI w S tO 92 5 g s)(a:Below w.heap.size w w'){r:aA×Nat}(b:r=(s,c)):bE S tO w g r (Y (I J (c:Int))) w':=by
 subst b;exact⟨rfl,(h.a a).f (fun k _ e=>A e),am.f a⟩
theorem bE.r {j:Nat}{v:Value}{u:aL}(h:gI w S tO 92 5 g s)(x:lc w g gu s.l.length)(n:i<s.l.length)(y:j<5)(z:∀q,(dv s.l[i] q).set j v=dv u q)(B:u.b=s.l[i].b){r:aA×Nat}(C:r=(⟨s.l.set i u,s.a⟩,0)):bE S tO w g r (Y (I J 0)) (w.setCell ⟨gu,i*5+j,U⟩ v):=by
 subst C;obtain⟨L,d,D,N,T,W,G,H,o⟩:=h.j;obtain⟨p,XH,c⟩:=x;rw[D] at c;injection c with c;injection c with ha _ _;subst ha;obtain⟨f,t⟩:=o.lH n y z B;obtain⟨g2,a,b,_,_⟩:=o.r.a i n;injection a with a;injection a with a;subst a;have m:am S w (w.setCell ⟨gu,i*5+j,U⟩ v):=t.j (fun k e=>by subst e;exact b.1);refine⟨rfl,⟨M ⟨gu,0,U⟩,d,?_,A H,?_⟩,m⟩
 . have:=t.y G (fun e=>b.2 e.symm);simpa using this
 . exact f.a (fun k _ e=>⟨A e.1,e.2⟩)
theorem bE.j {a:X}{r:aA×Nat}{e:Ending}(b:Below w.heap.size w a)(h:bE S tO a g r e w'):bE S tO w g r e w':=by
 have c:=b.size;refine⟨h.d,h.b.f (fun k _ e=>?_),(am.f b).a h.c (fun _ e _=>e)⟩;rcases e with e | e
 . exact A e
 . exact Or.inr (by omega)
theorem lc.j {n:Nat}(h:lc w g gu n)(c:Below w.heap.size w w'):lc w' g gu n:=by
 obtain⟨a,d,b⟩:=h;exact⟨a,d,by rw[c.cell (bY w _ b)];exact b⟩
theorem lc.f (h:gI w S tO 92 5 g s)(c:i<s.l.length):∃gu,lc w g gu s.l.length:=by
 obtain⟨f,a,d,j,k,m,n,o,b⟩:=h.j;obtain⟨e,rfl,_⟩:=b.r.a i c;exact⟨e,a,b.f,d⟩
theorem lc.a (h:gI w S tO 92 5 g s)(d:lc w g gu s.l.length)(e:i<s.l.length):∃q:em,w.cell? ⟨gu,i*5,U⟩=M (I J s.l[i].c)∧w.cell? ⟨gu,i*5+1,U⟩=M (I J s.l[i].a)∧w.cell? ⟨gu,i*5+2,U⟩=M (V s.l[i].d)∧w.cell? ⟨gu,i*5+3,U⟩=M (Z q.a s.l[i].b.length q.b)∧w.cell? ⟨gu,i*5+4,U⟩=M (I J s.l[i].e)∧(∀j,w.frozen? ⟨gu,j,U⟩=F)∧aB w q.a q.b s.l[i].b:=by
 obtain⟨x,f,k,y,z,B,C,D,m⟩:=h.j;obtain⟨c,G,b⟩:=d;rw[k] at b;injection b with b;injection b with ha _ _;subst ha;obtain⟨H,q,a,_,_,n,o,p,r,t,u,v,_⟩:=m.G i e;injection a with a;injection a with a;subst a;exact⟨q,n,o,p,r,t,u,v.B⟩
end
theorem M2 (s:aA)(S:Nat->Prop)(g c i:Nat)(w:X)(h:cD w S g s)(a:lc w g c s.l.length)(f:i<s.l.length):
 Calls prog 245 #[Q (M ⟨c,i*5,U⟩)] w (bE S 141 w g (qC s i s.l[i])):=by
 obtain⟨q,j,k,m,n,r,d,p⟩:=lc.a h a f;have t:=d (i*5+4);by_cases b:s.l[i].e=1
 . have e:Hid (∀W,W=w.setCell ⟨c,i*5+4,U⟩ (I J 2)->bE S 141 w g (qC s i s.l[i]) (Y (I J 0)) W):=fun W v=>by
    rw[v];exact bE.r (u:={ s.l[i] with e:=2 }) h a f (by decide) (fun q=>rfl) rfl (by unfold qC;rw[if_neg (by simpa using b)])
   rw[b] at r;clear h a d j k m n p;generalize s.l[i]=u at *;clear b;go_enter func245,ntmps245;go_wp2;go_ret;exact e.o _ rfl
 . have e:Hid (bE S 141 w g (qC s i s.l[i]) (Y (I J (19:Nat))) w):=bE.a h (ar _ _) (by unfold qC;rw[if_pos (by simpa using b)]);clear h a d j k m n p;generalize s.l[i]=u at *;go_enter func245,ntmps245;go_wp2;go_ret;exact e.o
abbrev nt:=X->(Nat->Prop)->Nat->av->Prop
structure oY (O:nt):Prop where
 b:∀{w w':X} {S S':Nat->Prop} {g:Nat} {s:av},O w S g s->am S' w w'->(∀k,S k->¬S' k)->O w' S g s
 a:∀{w:X} {S S':Nat->Prop} {g:Nat} {s:av},O w S g s->(∀k,k<w.heap.size->S k->S' k)->O w S' g s
structure vW (O:nt)(S:Nat->Prop)(w:X)(g:Nat)(r:av×iX)(e:Ending)(w':X):Prop where
 c:∃(ao:ag) (cap n:Nat),e=Y (.agg #[I J (r.2.1:Int),Z ao n cap,Z U 0 0])∧r.2.2.length=n∧aK w' w.heap.size 148 2 ao cap n (aI r.2.2)
 b:O w' (ay S w) g r.1
 d:am S w w'
structure bZ (O:nt)(S:Nat->Prop)(w:X)(g:Nat)(bs:List Obj)(s:av)(S':Nat->Prop)(W:X):Prop where
 h:∀i,i<bs.length->W.heap[w.heap.size+i]? = bs[i]?
 b:O W S' g s
 d:∀k,S' k->(S k∧k<w.heap.size)∨w.heap.size+bs.length<=k
 e:am (fun k=>S k∧k<w.heap.size) w W
 c:w.heap.size+bs.length<=W.heap.size
section
variable {O:nt} {S S' S'':Nat->Prop} {w W W':X} {g:Nat} {bs:List Obj} {s s':av}
theorem bZ.jY (L:oY O)(h:O w S g s):bZ O S w g [] s (fun k=>S k∧k<w.heap.size) w :=
 ⟨fun i a=>by simp at a,L.a h (fun k b e=>⟨e,b⟩),fun k e=>A e,am.B _ _,by simp⟩
theorem bZ.a (L:oY O)(h:bZ O S w g bs s S' W)(a:Below W.heap.size W W'):bZ O S w g bs s S' W':=by
 have b:=h.c;refine⟨fun i c=>(a.block _ (by omega)).trans (h.h i c),L.b h.b (am.f (S:=fun _=>False) a) (fun _ _ e=>e),h.d,h.e.a (am.f (S:=fun _=>False) a) (fun _ e _=>e.elim),cq b a.size⟩
theorem bZ.y (L:oY O)(h:bZ O S w g bs s S' W)(d:W.heap.size=w.heap.size+bs.length)(f:∀k,S' k->k<W.heap.size)(o:Obj):bZ O S w g (bs++[o]) s S' (W.alloc o):=by
 have j:=(ar _ W).alloc (ak _) o;have a:=h.a L j;refine⟨fun i l=>?_,a.b,fun k e=>?_,a.e,by rw[bF];simp;omega⟩
 . rcases eN i bs.length with b | b
   . rw[qS b];exact a.h i b
   . have:i=bs.length:=by simp at l;omega
     subst this;rw[qW (ak _),Nat.sub_self,<-d];exact aX W o
 . rcases h.d k e with c | c
   . exact A c
   . have:=f k e;omega
theorem bZ.r (h:bZ O S w g bs s S' W)(c:O W' (ay S' W) g s')(b:am S' W W'):bZ O S w g bs s' (ay S' W) W':=by
 have d:=h.c;refine⟨fun i f=>?_,c,fun k e=>?_,h.e.a b (fun k e j=>?_),cq d b.b⟩
 . refine(b.c _ (by omega) (fun e=>?_)).trans (h.h i f);rcases h.d _ e with a | a
   . omega
   . omega
 . rcases e with e | e
   . exact h.d k e
   . exact Or.inr (by omega)
 . rcases h.d k e with a | a
   . exact a
   . omega
theorem bZ.mI (h:bZ O S w g bs s S' W)(c:O W' S' g s')(b:am S' W W'):bZ O S w g bs s' S' W':=by
 have d:=h.c;refine⟨fun i f=>?_,c,h.d,h.e.a b (fun k e j=>?_),cq d b.b⟩
 . refine(b.c _ (by omega) (fun e=>?_)).trans (h.h i f);rcases h.d _ e with a | a
   . omega
   . omega
 . rcases h.d k e with a | a
   . exact a
   . omega
theorem bZ.H (h:bZ O S w g bs s S' W)(i:Nat){o:Obj}(a:bs[i]? = M o):W.heap[w.heap.size+i]? = M o:=(h.h i (fe.1 a).1).trans a
theorem bZ.j (L:oY O)(h:bZ O S w g bs s S' W){i:Nat}(q:bs[i]? = M (K #[I J 0,Z U 0 0,Z U 0 0] 126 (0,0))){b:Nat}(x:w.heap.size+i=b){st:Nat}{mJ:Int}(j:(st:Int)=mJ){l:aC}{ao:ag}{cap n:Nat}(y:l.length=n){c:Nat}(m:w.heap.size<=c)(t:aK W' c 148 2 ao cap n (aI l))(z:Below W.heap.size W W'):
 (W'.cell? ⟨b,0,U⟩=M (I J 0)∧W'.cell? ⟨b,1,U⟩=M (Z U 0 0)∧W'.cell? ⟨b,2,U⟩=M (Z U 0 0)∧W'.frozen? ⟨b,0,U⟩=F∧W'.frozen? ⟨b,1,U⟩=F∧W'.frozen? ⟨b,2,U⟩=F) ∧
 Hid ((((W'.setCell ⟨b,0,U⟩ (I J mJ)).setCell ⟨b,1,U⟩ (Z ao n cap)).setCell ⟨b,2,U⟩ (Z U 0 0)).cell? ⟨b,0,U⟩=M (I J mJ)∧(((W'.setCell ⟨b,0,U⟩ (I J mJ)).setCell ⟨b,1,U⟩ (Z ao n cap)).setCell ⟨b,2,U⟩ (Z U 0 0)).cell? ⟨b,1,U⟩=M (Z ao n cap)∧(((W'.setCell ⟨b,0,U⟩ (I J mJ)).setCell ⟨b,1,U⟩ (Z ao n cap)).setCell ⟨b,2,U⟩ (Z U 0 0)).cell? ⟨b,2,U⟩=M (Z U 0 0)∧vW O S w g (s,(st,l)) (Y (.agg #[I J mJ,Z ao n cap,Z U 0 0])) (((W'.setCell ⟨b,0,U⟩ (I J mJ)).setCell ⟨b,1,U⟩ (Z ao n cap)).setCell ⟨b,2,U⟩ (Z U 0 0))):=by
 subst x;subst j;have o:=h.a L z;have B:=(fe.1 q).1;have G:=h.c;have r:=o.H i q;refine⟨⟨aq W' _ 0 _ _ _ r,aq W' _ 1 _ _ _ r,aq W' _ 2 _ _ _ r,aN W' _ 0 _ _ r,aN W' _ 1 _ _ r,aN W' _ 2 _ _ r⟩,?_⟩;have C:=aP W' (w.heap.size+i) 0 _ _ (I J (st:Int)) r;have D:=aP _ (w.heap.size+i) 1 _ _ (Z ao n cap) C;have p:=aP _ (w.heap.size+i) 2 _ _ (Z U 0 0) D;have d:=jr (w.heap.size+i) [I J (st:Int),Z ao n cap,Z U 0 0] 0 W';replace d:am (fun k=>k=w.heap.size+i) W' (((W'.setCell ⟨w.heap.size+i,0,U⟩ (I J (st:Int))).setCell ⟨w.heap.size+i,1,U⟩ (Z ao n cap)).setCell ⟨w.heap.size+i,2,U⟩ (Z U 0 0)):=d;refine⟨aq _ _ 0 _ _ _ p,aq _ _ 1 _ _ _ p,aq _ _ 2 _ _ _ p,⟨⟨ao,cap,n,rfl,y,?_⟩,?_,?_⟩⟩
 . have u:=gH r t (by decide);rw[dq] at u;exact(t.j d (fun a e v=>u (by rw[e];show M a.block=_;rw[v]))).r m
 . refine L.a (L.b o.b d (fun k e v=>?_)) (fun k _ e=>?_)
   . rcases h.d k e with f | f
     . omega
     . omega
   . rcases h.d k e with f | f
     . exact A f.1
     . exact Or.inr (by omega)
 . exact(o.e.a d (fun k e H=>by omega)).j (fun k e=>e.1)
theorem bZ.nD (L:oY O)(h:bZ O S w g bs s S' W){b:Nat}(a:am (fun k=>k=b) W W')(l:w.heap.size+bs.length<=b)(c:¬S' b):bZ O S w g bs s S' W':=by
 have d:=h.c;refine⟨fun i f=>(a.c _ (by omega) (by omega)).trans (h.h i f),L.b h.b a (fun k e j=>c (by rw[<-j];exact e)),h.d,h.e.a a (fun k e m=>by omega),cq d a.b⟩
end
theorem ny (n v:ae)(w:X):Calls prog 153 #[V n,V v] w fun e w'=>e=Y (.agg #[V n,V v])∧Below w.heap.size w w':=by
 have a:(w.alloc (K #[V n,V v] 148)).cell? ⟨w.heap.size,0,U⟩=M (V n):=World.cell?_alloc_mark w _ _ _ 0;have b:(w.alloc (K #[V n,V v] 148)).cell? ⟨w.heap.size,1,U⟩=M (V v):=World.cell?_alloc_mark w _ _ _ 1;go_enter func153,ntmps153;go_wp2;exact aR (v:=.agg #[V n,V v]) (by simp[results,results153,go_sem,a,b]) rfl ⟨rfl,(ar _ w).alloc (ak _) _⟩
def bV (st:Int)(ao:ag)(n cap:Nat):Ending:=.panicked [{ v:=.iface 233 (.agg #[I J st,Z ao n cap,Z U 0 0]),recovered:=F }]
def gM (w:X)(r:iX)(e:Ending)(w':X):Prop:=∃(ao:ag) (cap n:Nat),e=bV (r.1:Int) ao n cap∧r.2.length=n∧aK w' w.heap.size 148 2 ao cap n (aI r.2)∧Below w.heap.size w w'
def uu (w:X)(r:iX)(e:Ending)(w':X):Prop:=∃(ao:ag) (cap n:Nat),e=Y (.agg #[I J (r.1:Int),Z ao n cap,Z U 0 0])∧r.2.length=n∧aK w' w.heap.size 148 2 ao cap n (aI r.2)∧Below w.heap.size w w'
theorem gM.f {w b w':X}{r:iX}{e:Ending}(c:Below w.heap.size w b)(h:gM b r e w'):gM w r e w':=by
 obtain⟨d,a,n,f,g,i,j⟩:=h;exact⟨d,a,n,f,g,i.r c.size,au c j⟩
theorem Cg (st:Nat)(mJ:Int)(u:(st:Int)=mJ)(l:aC)(H:ag)(L n:Nat)(w:X)(hl:bq w H L n (aI l))(hn:l.length=n)(hN:n<=1000):
 Calls prog 159 #[I J mJ,Z H n L] w fun e w'=>uu w (bT st l) e w':=by
 obtain⟨i0,x,y,z,B⟩:=info_parts pS;have Hi:=x;have lg:=aa y;have kZ:=aa z;have lq:=aa B
 have HL:=hl;have N:=aa hn;have C:=aa u
 have jf:=(ar _ w).alloc (ak _) (K #[I J 0,Z U 0 0,Z U 0 0] 126);go_enter func159,ntmps159;go_wp2_with fail;refine(ny fx cG (w.alloc (K #[I J 0,Z U 0 0,Z U 0 0] 126))).mono ?_;rintro e p ⟨rfl,r⟩;have s:=(r.block w.heap.size (by simp)).trans (aX w _);have D:=(bO.1 s).1;have m:=au (au jf r) ((ar _ p).alloc (ak _) (K #[V fx,V cG] 148));have hO:aK (p.alloc (K #[V fx,V cG] 148)) w.heap.size 148 2 (M ⟨p.heap.size,0,U⟩) 1 1 [V fx,V cG]:=vu p #[V fx,V cG] 1 (by omega) (by decide) rfl;have t:=(((ar _ p).alloc (ak _) (K #[V fx,V cG] 148)).block w.heap.size D).trans s;have S:=aa (HL.a m);have T:=aa hO;have W:Hid (∀(d:ag) (f:Nat) (b:X),aK b w.heap.size 148 2 d f (1+n) ([V fx,V cG]++aI l)->(p.alloc (K #[V fx,V cG] 148)).grownBy b (M p.heap.size)->(b.cell? ⟨w.heap.size,0,U⟩=M (I J 0)∧b.cell? ⟨w.heap.size,1,U⟩=M (Z U 0 0)∧b.cell? ⟨w.heap.size,2,U⟩=M (Z U 0 0)∧b.frozen? ⟨w.heap.size,0,U⟩=F∧b.frozen? ⟨w.heap.size,1,U⟩=F∧b.frozen? ⟨w.heap.size,2,U⟩=F) ∧
  Hid ((((b.setCell ⟨w.heap.size,0,U⟩ (I J mJ)).setCell ⟨w.heap.size,1,U⟩ (Z d (1+n) f)).setCell ⟨w.heap.size,2,U⟩ (Z U 0 0)).heap[w.heap.size]? = M (K #[I J mJ,Z d (1+n) f,Z U 0 0] 126 (0,0))∧uu w (bT st l) (Y (.agg #[I J mJ,Z d (1+n) f,Z U 0 0])) (((b.setCell ⟨w.heap.size,0,U⟩ (I J mJ)).setCell ⟨w.heap.size,1,U⟩ (Z d (1+n) f)).setCell ⟨w.heap.size,2,U⟩ (Z U 0 0)))):=fun d f b g i=>by
  have c:=(i.block _ (bO.1 t).1 (fun e=>by injection e with e;omega)).trans t;refine⟨⟨aq b _ 0 _ _ _ c,aq b _ 1 _ _ _ c,aq b _ 2 _ _ _ c,aN b _ 0 _ _ c,aN b _ 1 _ _ c,aN b _ 2 _ _ c⟩,?_⟩;have r0:=aP b w.heap.size 0 _ _ (I J mJ) c;have r1:=aP _ w.heap.size 1 _ _ (Z d (1+n) f) r0;have r2:=aP _ w.heap.size 2 _ _ (Z U 0 0) r1;refine⟨r2,d,f,1+n,by rw[<-C.o];rfl,?_,?_,?_⟩
  . show(_::l).length=1+n;have:=N.o;simp only[bG];omega
  . have nz:=gH c g (by decide);rw[dq] at nz;exact g.j (jr w.heap.size [I J mJ,Z d (1+n) f,Z U 0 0] 0 b) (fun a e e2=>nz (by rw[e];show M a.block=_;rw[e2]))
  . have h3:Below w.heap.size w b:=m.grown i m.size (fun q e=>by injection e with e;omega);exact h3.trans ((jr w.heap.size [I J mJ,Z d (1+n) f,Z U 0 0] 0 b).below (fun k e=>by omega) h3.size)
 have HZ:Hid (w.heap.size<=(p.alloc (K #[V fx,V cG] 148)).heap.size):=m.size;have JB:(aI l).length=n*2:=by rw[sO,N.o]
 unfold fx cG at T S W HZ;go_wp2_with (at_builtin;refine lO rfl (.tmp 7) (.tmp 8) 80 rfl w.heap.size 148 i0 (.agg #[V ⟨#[]⟩,V ⟨#[]⟩]) 2 32 underlying80 Hi lg.o kZ.o lq.o rfl (by decide) rfl T.o rfl S.o JB (D9 l) (by omega) (by omega) HZ.o ?_;intro d f b g i _;obtain⟨⟨x0,x1,x2,y0,y1,y2⟩,HX⟩:=W.o d f b g i;clear g i)
 generalize (((b.setCell ⟨w.heap.size,0,U⟩ (I J mJ)).setCell ⟨w.heap.size,1,U⟩ (Z d (1+n) f)).setCell ⟨w.heap.size,2,U⟩ (Z U 0 0))=G at *;obtain⟨j,hD⟩:=HX.o;have q0:=aq G _ 0 _ _ _ j;have q1:=aq G _ 1 _ _ _ j;have q2:=aq G _ 2 _ _ _ j;exact aR (v:=.agg #[I J mJ,Z d (1+n) f,Z U 0 0]) (by simp[results,results159,go_sem,q0,q1,q2]) rfl hD
theorem oh (st:Nat)(mJ:Int)(a:(st:Int)=mJ)(l:aC)(b:ag)(c n:Nat)(w:X)(d:bq w b c n (aI l))(f:l.length=n)(g:n<=1000):
 Calls prog 159 #[I J mJ,Z b n c] w fun e w'=>∃(ao:ag) (cap k:Nat),e=Y (.agg #[I J mJ,Z ao k cap,Z U 0 0])∧((fx,cG)::l).length=k∧aK w' w.heap.size 148 2 ao cap k (aI ((fx,cG)::l))∧Below w.heap.size w w':=by
 subst a;exact Cg st _ rfl l b c n w d f g
theorem fT (mJ:Int)(a:ag)(n b:Nat)(w:X):Calls prog 152 #[.bool true,I J mJ,Z a n b] w fun e w'=>e=Y (.tuple #[])∧w'=w:=by
 go_enter func152,ntmps152;go_wp2;go_end0
 exact⟨rfl,rfl⟩
theorem yy (st:Nat)(mJ:Int)(b:(st:Int)=mJ)(l:aC)(c:ag)(d n:Nat)(w:X)(g:bq w c d n (aI l))(i:l.length=n)(j:n<=1000):
 Calls prog 152 #[.bool F,I J mJ,Z c n d] w fun e w'=>gM w (bT st l) e w':=by
 go_enter func152,ntmps152;go_wp2_with fail;refine(Cg st mJ b l c d n w g i j).mono ?_;rintro e k ⟨f,a,m,rfl,o,p,q⟩;have r:gM w (bT st l) (bV ((bT st l).1:Int) f m a) k:=⟨f,a,m,rfl,o,p,q⟩;go_wp2;exact⟨rfl,r⟩
theorem iA (st:Nat)(mJ:Int)(a:(st:Int)=mJ)(w:X):Calls prog 152 #[.bool F,I J mJ,Z U 0 0] w fun e w'=>gM w (bT st []) e w' :=
 yy st mJ a [] U 0 0 w (bq.r w) rfl (by decide)
theorem PD (i z t:Int)(m:ae)(bo:ag)(n fZ:Nat)(w:X):
 Calls prog 243 #[.agg #[I J i,I J z,V m,Z bo n fZ,I J t]] w fun e w'=>e=Y (.bool (decide (z=n)))∧w'=w.alloc (K #[I J i,I J z,V m,Z bo n fZ,I J t] 92):=by
 go_enter func243,ntmps243;go_wp2;go_ret;exact⟨rfl,rfl⟩
theorem RF (b o:Nat)(z:Int)(w:X)(d:w.cell? ⟨b,o+1,U⟩=M (I J z)):
 Calls prog 294 #[Q (M ⟨b,o,U⟩)] w fun e w'=>e=Y (I J (if z=-1 then 2000 else z))∧w'=w:=by
 by_cases a:z=-1
 . subst a;go_enter func294,ntmps294;go_wp2;go_ret;exact⟨rfl,rfl⟩
 . have c:=aa a;go_enter func294,ntmps294;go_wp2;go_ret;exact⟨by first | rfl | (rw[if_neg c.o];rfl),rfl⟩
theorem M8 (s:aA)(S:Nat->Prop)(g k i:Nat)(w:X)(h:cD w S g s)(d:lc w g k s.l.length)(p:i<s.l.length):
 Calls prog 242 #[Q (M ⟨k,i*5,U⟩)] w (bE S 141 w g (oM s i s.l[i])):=by
 obtain⟨q,C,D,G,H,z,r,t⟩:=lc.a h d p;by_cases c:s.l[i].e=0
 . have f:=aa (PD s.l[i].c s.l[i].a s.l[i].e s.l[i].d q.a s.l[i].b.length q.b w);have b:∀a,Below w.heap.size w (w.alloc a):=fun a=>(ar _ _).alloc (ak _) _;by_cases j:s.l[i].a=s.l[i].b.length
   . have m:Hid (∀W a,W=w.alloc a->W.frozen? ⟨k,i*5+4,U⟩=F∧W.cell? ⟨k,i*5+4,U⟩=M (I J s.l[i].e)∧bE S 141 w g (oM s i s.l[i]) (Y (I J 0)) (W.setCell ⟨k,i*5+4,U⟩ (I J 1))):=fun W a v=>by
      subst v;obtain⟨q2,_,_,_,_,L,N,_⟩:=lc.a (h.a (b a)) (d.j (b a)) p;exact⟨N _,L,bE.j (b a) (bE.r (u:={ s.l[i] with e:=1 }) (h.a (b a)) (d.j (b a)) p (by decide) (fun q=>rfl) rfl (by unfold oM;rw[if_neg (by simpa using c),if_neg (by simpa using j)]))⟩
     rw[br j] at f;rw[c] at f z;clear h d r t j b c;generalize s.l[i]=u at *;go_enter func242,ntmps242;go_wp2_with fail;refine f.o.mono ?_;rintro e T ⟨rfl,n⟩;obtain⟨r1,r2,B⟩:=m.o _ _ n;have x:=aa B;clear B n;go_wp2;go_ret;exact x.o
   . have m:Hid (∀W a,W=w.alloc a->bE S 141 w g (oM s i s.l[i]) (Y (I J (14:Nat))) W):=fun W a v=>by
      subst v;exact bE.a h (b a) (by unfold oM;rw[if_neg (by simpa using c),if_pos (by simpa using j)])
     rw[ba j] at f;rw[c] at f z;clear h d r t j b c;generalize s.l[i]=u at *;go_enter func242,ntmps242;go_wp2_with fail;refine f.o.mono ?_;rintro e T ⟨rfl,n⟩;have y:=aa n;clear n;go_wp2;go_ret;exact m.o _ _ y.o
 . have m:Hid (bE S 141 w g (oM s i s.l[i]) (Y (I J (19:Nat))) w):=bE.a h (ar _ _) (by unfold oM;rw[if_pos (by simpa using c)]);clear h d r C D G H t;generalize s.l[i]=u at *;go_enter func242,ntmps242;go_wp2;go_ret;exact m.o
theorem M9 (s:aA)(S:Nat->Prop)(g j i o:Nat)(a:Int)(w:X)(h:cD w S g s)(p:lc w g j s.l.length)(t:i<s.l.length)(v:-1<=s.l[i].a)(C:w.cell? ⟨o,0,U⟩=M (I J a)):
 Calls prog 296 #[Q (M ⟨j,i*5,U⟩),Q (M ⟨o,0,U⟩)] w (bE S 141 w g (ki s a i s.l[i])):=by
 obtain⟨q,D,G,H,L,N,x,T⟩:=lc.a h p t;by_cases W:s.l[i].a=-1
 . have k:¬0<=s.l[i].a:=by omega
   by_cases b:a<0
   . have d:bE S 141 w g (ki s a i s.l[i]) (Y (I J (1:Nat))) w:=bE.a h (ar _ _) (by unfold ki;rw[if_neg k,if_pos b]);generalize s.l[i]=u at *;go_enter func296,ntmps296;go_wp2;go_ret;exact d
   . have tn:decide (a<0)=F:=by rw[cC];exact b
     by_cases e:2000<a
     . have d:∀n,bE S 141 w g (ki s a i s.l[i]) (Y (I J (4:Nat))) (w.drewN n):=fun n=>bE.a (c:=4) (r:=ki s a i s.l[i]) h (sR w n) (by unfold ki;rw[if_neg k,if_neg b,if_pos (A e)]);have y:decide (a > 2000)=true:=by rw[bR];exact e
       generalize s.l[i]=u at *;go_enter func296,ntmps296;go_wp2;go_quiet (fail)
       go_wp2;go_ret;exact d _
     . have y:decide (a > 2000)=F:=by rw[cC];omega
       by_cases f:a<s.l[i].b.length
       . have d:∀n,bE S 141 w g (ki s a i s.l[i]) (Y (I J (4:Nat))) (w.drewN n):=fun n=>bE.a (c:=4) (r:=ki s a i s.l[i]) h (sR w n) (by unfold ki;rw[if_neg k,if_neg b,if_pos (Or.inr f)]);have z:decide (a<(s.l[i].b.length:Int))=true:=by rw[bR];exact f
         generalize s.l[i]=u at *;go_enter func296,ntmps296;go_wp2;go_quiet (fail)
         go_wp2;go_ret;exact d _
       . have m:=sR w;have d:∀n,bE S 141 w g (ki s a i s.l[i]) (Y (I J 0)) ((w.drewN n).setCell ⟨j,i*5+1,U⟩ (I J a)):=fun n =>
          bE.j (m n) (bE.r (u:={ s.l[i] with a:=a }) (h.a (m n)) (p.j (m n)) t (by decide) (fun q=>rfl) rfl (by unfold ki;rw[if_neg k,if_neg b,if_neg (by omega)]))
         have z:decide (a<(s.l[i].b.length:Int))=F:=by rw[cC];omega
         have B:w.frozen? ⟨j,i*5+1,U⟩=F:=x _;generalize s.l[i]=u at *;go_enter func296,ntmps296;go_wp2;go_quiet (fail)
         go_wp2;go_ret;exact d _
 . have d:bE S 141 w g (ki s a i s.l[i]) (Y (I J (18:Nat))) w:=bE.a h (ar _ _) (by unfold ki;rw[if_pos (by omega)]);generalize s.l[i]=u at *;go_enter func296,ntmps296;go_wp2;go_ret;exact d
theorem Nj (s:aA)(S:Nat->Prop)(g:Nat)(f:Int)(w:X)(h:cD w S g s)(hN:s.l.length<=1000)(b:Nat->aL->aA×Nat)
 (G:∀d i x (y:i<s.l.length),Below w.heap.size w d->cD d S g s->lc d g x s.l.length->Calls prog 245 #[Q (M ⟨x,i*5,U⟩)] d (bE S 141 d g (b i s.l[i]))) :
 Calls prog 241 #[Q (M ⟨g,0,U⟩),I J f,.func (.func 245) #[] #[]] w (bE S 141 w g (cQ s f b)):=by
 have p:=aa (ri s S g f w h hN);have z:=aa h;have H:=aa G;clear h G;cases j:cE s.l f with
 | none =>
   rw[qG j] at p;have HR:Hid (∀W,Below w.heap.size w W->bE S 141 w g (cQ s f b) (Y (I J (10:Nat))) W):=fun W a=>bE.a z.o a (qD j);clear j;go_enter func241,ntmps241;go_wp2_with fail;refine p.o.mono ?_;rintro e d ⟨rfl,a⟩;have L:=aa a;clear a;go_wp2;go_ret;exact HR.o _ L.o
 | some i =>
   rw[qF j] at p;have y:=mu j;have q:cQ s f b=b i (s.l[i]'y):=qE j;clear j;have B:=aa q;clear q;go_enter func241,ntmps241;go_wp2_with fail;refine p.o.mono ?_;rintro e d ⟨rfl,a⟩;have C:=z.o.a a;obtain⟨x,t⟩:=lc.f C y;have HC:=aa (H.o d i x y a C t);have L:=aa a;obtain⟨cap,N,hc⟩:=t;have hi':(i:Int)<s.l.length:=by omega
   have T:Hid (∀e u,bE S 141 d g (b i s.l[i]) e u->bE S 141 w g (cQ s f b) e u∧∃c:Nat,e=Y (I J (c:Int))):=fun e u m=>by
    have hsz:=a.size;refine⟨⟨by rw[B.o];exact m.d,?_,(am.f a).a m.c (fun _ e _=>e)⟩,_,m.d⟩;rw[B.o];refine m.b.f (fun k _ e=>?_);rcases e with e | e
    . exact A e
    . exact Or.inr (by omega)
   clear a C B z H p;generalize b i s.l[i]=r at *;generalize cQ s f b=r2 at *;generalize s.l.length=n at *;go_wp2_with fail;refine HC.o.mono ?_;intro e u m;obtain⟨v,c,rfl⟩:=T.o e u m;have D:=aa v;clear m v T;go_wp2;go_ret;exact D.o
theorem Nk (s:aA)(S:Nat->Prop)(g:Nat)(f:Int)(w:X)(h:cD w S g s)(hN:s.l.length<=1000)(b:Nat->aL->aA×Nat)
 (G:∀d i x (y:i<s.l.length),Below w.heap.size w d->cD d S g s->lc d g x s.l.length->Calls prog 242 #[Q (M ⟨x,i*5,U⟩)] d (bE S 141 d g (b i s.l[i]))) :
 Calls prog 241 #[Q (M ⟨g,0,U⟩),I J f,.func (.func 242) #[] #[]] w (bE S 141 w g (cQ s f b)):=by
 have p:=aa (ri s S g f w h hN);have z:=aa h;have H:=aa G;clear h G;cases j:cE s.l f with
 | none =>
   rw[qG j] at p;have HR:Hid (∀W,Below w.heap.size w W->bE S 141 w g (cQ s f b) (Y (I J (10:Nat))) W):=fun W a=>bE.a z.o a (qD j);clear j;go_enter func241,ntmps241;go_wp2_with fail;refine p.o.mono ?_;rintro e d ⟨rfl,a⟩;have L:=aa a;clear a;go_wp2;go_ret;exact HR.o _ L.o
 | some i =>
   rw[qF j] at p;have y:=mu j;have q:cQ s f b=b i (s.l[i]'y):=qE j;clear j;have B:=aa q;clear q;go_enter func241,ntmps241;go_wp2_with fail;refine p.o.mono ?_;rintro e d ⟨rfl,a⟩;have C:=z.o.a a;obtain⟨x,t⟩:=lc.f C y;have HC:=aa (H.o d i x y a C t);have L:=aa a;obtain⟨cap,N,hc⟩:=t;have hi':(i:Int)<s.l.length:=by omega
   have T:Hid (∀e u,bE S 141 d g (b i s.l[i]) e u->bE S 141 w g (cQ s f b) e u∧∃c:Nat,e=Y (I J (c:Int))):=fun e u m=>by
    have hsz:=a.size;refine⟨⟨by rw[B.o];exact m.d,?_,(am.f a).a m.c (fun _ e _=>e)⟩,_,m.d⟩;rw[B.o];refine m.b.f (fun k _ e=>?_);rcases e with e | e
    . exact A e
    . exact Or.inr (by omega)
   clear a C B z H p;generalize b i s.l[i]=r at *;generalize cQ s f b=r2 at *;generalize s.l.length=n at *;go_wp2_with fail;refine HC.o.mono ?_;intro e u m;obtain⟨v,c,rfl⟩:=T.o e u m;have D:=aa v;clear m v T;go_wp2;go_ret;exact D.o
theorem Nl (s:aA)(S:Nat->Prop)(g:Nat)(f:Int)(w:X)(h:cD w S g s)(L:s.l.length<=1000)(C:Nat)(a:Nat->aL->aA×Nat)
 (D:∀b i u (v:i<s.l.length),Below w.heap.size w b->cD b S g s->lc b g u s.l.length->Calls prog 296 #[Q (M ⟨u,i*5,U⟩),Q (M ⟨C,0,U⟩)] b (bE S 141 b g (a i s.l[i]))) :
 Calls prog 241 #[Q (M ⟨g,0,U⟩),I J f,.func (.func 296) #[] #[Q (M ⟨C,0,U⟩)]] w (bE S 141 w g (cQ s f a)):=by
 have m:=ri s S g f w h L;have G:=aa D;clear  D;cases p:cE s.l f with
 | none =>
   rw[qG p] at m;have N:∀W,Below w.heap.size w W->bE S 141 w g (cQ s f a) (Y (I J (10:Nat))) W:=fun W d=>bE.a h d (qD p);go_enter func241,ntmps241;go_wp2_with fail;refine m.mono ?_;rintro e b ⟨rfl,d⟩;go_wp2;go_ret;exact N _ d
 | some i =>
   rw[qF p] at m;have v:=mu p;have x:cQ s f a=a i (s.l[i]'v):=qE p;have y:=aa x;go_enter func241,ntmps241;go_wp2_with fail;refine m.mono ?_;rintro e b ⟨rfl,d⟩;have z:=h.a d;obtain⟨u,q⟩:=lc.f z v;have T:=aa (G.o b i u v d z q);have HB:=aa d;obtain⟨cap,H,hc⟩:=q;have hi':(i:Int)<s.l.length:=by omega
   have HD:Hid (∀e t,bE S 141 b g (a i s.l[i]) e t->bE S 141 w g (cQ s f a) e t∧∃c:Nat,e=Y (I J (c:Int))):=fun e t j=>by
    have hsz:=d.size;refine⟨⟨by rw[y.o];exact j.d,?_,(am.f d).a j.c (fun _ e _=>e)⟩,_,j.d⟩;rw[y.o];refine j.b.f (fun k _ e=>?_);rcases e with e | e
    . exact A e
    . exact Or.inr (by omega)
   clear  z y  G m;generalize a i s.l[i]=r at *;generalize cQ s f a=r2 at *;generalize s.l.length=n at *;go_wp2_with fail;refine T.o.mono ?_;intro e t j;obtain⟨B,c,rfl⟩:=HD.o e t j;go_wp2;go_ret;exact B
theorem Nm (s:aA)(S:Nat->Prop)(g:Nat)(f:Int)(w:X)(h:cD w S g s)(T:s.l.length<=1000)(C D G:Nat)(a:Nat->aL->aA×Nat)
 (H:∀b i u (v:i<s.l.length),Below w.heap.size w b->cD b S g s->lc b g u s.l.length->Calls prog 293 #[Q (M ⟨u,i*5,U⟩),Q (M ⟨C,0,U⟩),Q (M ⟨D,0,U⟩),Q (M ⟨G,0,U⟩)] b (bE S 141 b g (a i s.l[i]))) :
 Calls prog 241 #[Q (M ⟨g,0,U⟩),I J f,.func (.func 293) #[] #[Q (M ⟨C,0,U⟩),Q (M ⟨D,0,U⟩),Q (M ⟨G,0,U⟩)]] w (bE S 141 w g (cQ s f a)):=by
 have m:=ri s S g f w h T;have L:=aa H;clear  H;cases p:cE s.l f with
 | none =>
   rw[qG p] at m;have HR:∀W,Below w.heap.size w W->bE S 141 w g (cQ s f a) (Y (I J (10:Nat))) W:=fun W d=>bE.a h d (qD p);go_enter func241,ntmps241;go_wp2_with fail;refine m.mono ?_;rintro e b ⟨rfl,d⟩;go_wp2;go_ret;exact HR _ d
 | some i =>
   rw[qF p] at m;have v:=mu p;have x:cQ s f a=a i (s.l[i]'v):=qE p;have y:=aa x;go_enter func241,ntmps241;go_wp2_with fail;refine m.mono ?_;rintro e b ⟨rfl,d⟩;have z:=h.a d;obtain⟨u,q⟩:=lc.f z v;have HC:=aa (L.o b i u v d z q);have HB:=aa d;obtain⟨cap,N,hc⟩:=q;have hi':(i:Int)<s.l.length:=by omega
   have HD:Hid (∀e t,bE S 141 b g (a i s.l[i]) e t->bE S 141 w g (cQ s f a) e t∧∃c:Nat,e=Y (I J (c:Int))):=fun e t j=>by
    have hsz:=d.size;refine⟨⟨by rw[y.o];exact j.d,?_,(am.f d).a j.c (fun _ e _=>e)⟩,_,j.d⟩;rw[y.o];refine j.b.f (fun k _ e=>?_);rcases e with e | e
    . exact A e
    . exact Or.inr (by omega)
   clear  z y  L m;generalize a i s.l[i]=r at *;generalize cQ s f a=r2 at *;generalize s.l.length=n at *;go_wp2_with fail;refine HC.o.mono ?_;intro e t j;obtain⟨B,c,rfl⟩:=HD.o e t j;go_wp2;go_ret;exact B
theorem KA (l:ab)(bo:ag)(fZ n:Nat)(w:X)(q:aB w bo fZ l)(r:l.length=n)(H:n<=140737488355328):
 Calls prog 136 #[Z bo n fZ] w fun e w'=>∃ao cap,e=Y (Z ao n cap)∧bK w' (fun k=>w.heap.size<=k) 5 ao cap l∧Below w.heap.size w w':=by
 have L:∀(w:X) (a:ag) (n c d f:Nat),(binOp .eql 31 (Z a n c) (Z U d f)).run prog w=.ok (.bool a.isNone) w:=fun w a n c d f=>Lib.run_eql_slice_nil w _ _ a n c d f underlying31;cases bo with
 | none =>
   obtain⟨rfl,rfl⟩:=q.jK;subst r;go_enter func136,ntmps136;go_wp2;go_ret;exact⟨U,0,rfl,bK.f _ _ _,ar _ _⟩
 | some a =>
   have t:=q;have u:=aa r
   obtain⟨v,g,i,j,m⟩:=info_parts gG;have x:=g;have y:=aa i;have z:=aa j;have B:=aa m
   go_enter func136,ntmps136;go_wp2_with (at_builtin;refine xX (S:=fun _=>False) rfl (.tmp 5) (.tmp 6) 31 rfl 5 v underlying31 x y.o z.o B.o (l:=[]) rfl rfl (Or.inr ⟨rfl,rfl⟩) rfl (t.jY _) u.o (by omega) ?_;intro C D N b s;have G:=aa b;have p:=aa s;clear b s)
   go_ret;refine⟨C,D,by simp,?_,?_⟩
   . have:=G.o;rw[kX] at this;exact this.j (fun k _ e=>by
      rcases e with e | e
      . simp[cw] at e
      . simp at e;omega)
   . exact((ar _ _).alloc (ak _) _).trans (p.o.below (fun k e=>by simp[cw] at e) (by simp))
theorem EY (w:X):
 Calls prog 45 #[] w fun e w'=>e=Y (Q (M ⟨w.heap.size,0,U⟩))∧cD w' (fun k=>w.heap.size<=k) w.heap.size fa∧Below w.heap.size w w':=by
 have a:=(ar _ w).alloc (ak _) (K #[Z U 0 0,I J 0] 141);have b:cD (w.alloc (K #[Z U 0 0,I J 0] 141)) (fun k=>w.heap.size<=k) w.heap.size fa:=⟨U,0,aX w _,ak _,dN.jY _ _ _ _⟩;go_enter func45,ntmps45;go_wp2;go_ret;exact⟨rfl,b,a⟩
def aU.d:aU->az
 | .head h=>⟨1,⟨h.e.toArray⟩,⟨h.b.toArray⟩,(h.d:Int),co h.a,h.c,[],⟨#[]⟩,⟨#[]⟩,⟨#[]⟩,[],0⟩
 | .body b=>⟨2,⟨#[]⟩,⟨#[]⟩,0,[],0,b,⟨#[]⟩,⟨#[]⟩,⟨#[]⟩,[],0⟩
 | .fin=>⟨3,⟨#[]⟩,⟨#[]⟩,0,[],0,[],⟨#[]⟩,⟨#[]⟩,⟨#[]⟩,[],0⟩
 | .fail c=>⟨4,⟨#[]⟩,⟨#[]⟩,0,[],0,[],⟨#[]⟩,⟨#[]⟩,⟨#[]⟩,[],(c:Int)⟩
theorem yJ (e:aU):e.d.b=2<->e.a=true:=by cases e <;> simp[aU.d,aU.a]
theorem S0 (l:List aU):jw (l.map aU.d)=ms l:=by
 rcases mz l with rfl | ⟨q,x,rfl⟩
 . rfl
 . rw[kW,ku,List.map_cons,List.map_nil,vK,FQ];by_cases h:x.a=true
   . rw[h];exact br ((yJ x).2 h)
   . rw[Bool.not_eq_true] at h;rw[h];exact ba (fun k=>by rw[(yJ x).1 k] at h;cases h)
theorem Th {l:List aU}(g:ey l)(e:aU):iE (l.map aU.d) e.d=(aE (l++[e])).map aU.d:=by
 by_cases c:e.a=true∧ms l=true
 . obtain⟨b,rfl⟩:∃b,e=.body b:=by
    cases e with
    | body b=>exact⟨b,rfl⟩
    | head _=>cases c.1
    | fin=>cases c.1
    | fail _=>cases c.1
   obtain⟨q,a,rfl⟩:=Gi l c.2;rw[OA g,ku,List.map_cons,List.map_nil,sY _ _ _ rfl rfl,ku];rfl
 . have f:e.a=true->ms l=F:=fun i=>by
    cases f:ms l
    . rfl
    . exact absurd ⟨i,f⟩ c
   rw[OB g f,rg _ _ (fun k=>by rw[S0];exact f ((yJ e).1 k)),ku];rfl
theorem tT:∀l:List aU,dx (l.map aU.d)=bQ l
 | []=>rfl
 | .body a::r=>by show a.length+dx (r.map aU.d)=a.length+bQ r;rw[tT r]
 | .head _::r=>by show 0+dx (r.map aU.d)=bQ r;rw[tT r];omega
 | .fin::r=>by show 0+dx (r.map aU.d)=bQ r;rw[tT r];omega
 | .fail _::r=>by show 0+dx (r.map aU.d)=bQ r;rw[tT r];omega
def oI (m t:ae)(l:aC):dg:=⟨m.data.toList,t.data.toList,0,gU l,0⟩
