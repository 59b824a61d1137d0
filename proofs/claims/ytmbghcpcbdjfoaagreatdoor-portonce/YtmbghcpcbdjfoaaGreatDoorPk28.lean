import Derived.Test.YtmbghcpcbdjfoaaGreatDoorPk12
import Derived.Test.YtmbghcpcbdjfoaaGreatDoorPk20
import Derived.Test.YtmbghcpcbdjfoaaGreatDoorFlB
open Go.Value renaming int->I,string->V,slice->Z,pointer->Q
open Go.IntKind renaming i64->J
open Go.Obj renaming cells->K
open Go.Ending renaming returned->Y
open Option renaming none->U,some->M
open Bool renaming false->F
open Or renaming inl->A
open Go renaming World->X
set_option maxHeartbeats 1600000
set_option maxRecDepth 100000
open Go.Proofs.Tryz
namespace Go.Proofs.YtmbghcpcbdjfoaaGreatDoor
open Go.RowKit
abbrev cE (w:X)(S:Nat->Prop)(g:Nat)(s:aA):Prop:=gY w S 121 92 5 g s
theorem Mv (i z t id:Int)(m:ag)(bo:ai)(n gF b:Nat)(w:X)(a:w.cell? ⟨b,0,U⟩=M (I J id)):
 Calls prog 110 #[.agg #[I J i,I J z,V m,Z bo n gF,I J t],Q (M ⟨b,0,U⟩)] w fun e w'=>e=Y (.bool (decide (i=id)))∧w'=w.alloc (K #[I J i,I J z,V m,Z bo n gF,I J t] 92):=by
 have c:=bI w _ a;have d:(w.alloc (K #[I J i,I J z,V m,Z bo n gF,I J t] 92)).cell? ⟨b,0,U⟩=M (I J id):=by
  rw[((aq w.heap.size w).alloc (ak _) _).cell (p:=⟨b,0,U⟩) c];exact a
 go_enter func110,ntmps110;go_wp2;go_ret;exact⟨rfl,rfl⟩
theorem KK (l:List aL)(id:Int)(ao:ai)(cap n b:Nat)(w:X)(C:qP w ao cap l)(x:n<=cap)(D:l.length=n)(W:n<=1000000)(y:w.cell? ⟨b,0,U⟩=M (I J id)):
 Calls prog 109 #[Z ao n cap,.func (.func 110) #[] #[Q (M ⟨b,0,U⟩)]] w fun e w'=>e=Y (I J (qc l id))∧Below w.heap.size w w':=by
 subst D;have G:=bI w _ y;go_enter func109,ntmps109;go_wp2;go_loopw [8] (fun t wr=>∃k:Nat,k<=l.length∧t=I J k∧Below w.heap.size w wr∧∀p∈l.take k,p.b≠id) (fun t _=>l.length-(intOf t).toNat)
 case atStart=>exact⟨0,ax _,rfl,aq _ _,fun p q=>by simp at q⟩
 case round =>
  obtain⟨k,hk,rfl,i,c⟩:=hrel;by_cases d:k<l.length
  . obtain⟨bb,oo,s,rfl,H,L,N,S,T,_⟩:=(C.a i).d k d;have z:(k:Int)<l.length:=by omega
    have B:l.take (k+1)=l.take k++[l[k]]:=go d;have o:=Mv l[k].b l[k].c l[k].e id l[k].d s.a l[k].a.length s.b b wr (by rw[i.cell (p:=⟨b,0,U⟩) G];exact y);have a:Below w.heap.size w (wr.alloc (K #[I J l[k].b,I J l[k].c,V l[k].d,Z s.a l[k].a.length s.b,I J l[k].e] 92)):=i.alloc i.size _;by_cases j:l[k].b=id
    . rw[aV j] at o;have u:qc l id=k:=qe (G9 l id k d j c);clear j  B;generalize l[k]=p at *;go_wp2_with fail;refine o.mono ?_;rintro e v ⟨rfl,m⟩;have f:Below w.heap.size w v:=by rw[m];exact a
      clear m a;go_wp2;go_ret;exact⟨by rw[u];rfl,f⟩
    . rw[aW j] at o;generalize l[k]=p at *;go_wp2_with fail;refine o.mono ?_;rintro e v ⟨rfl,m⟩;have f:Below w.heap.size w v:=by rw[m];exact a
      clear m a;go_wp2;go_roundw
      case rel =>
       refine⟨k+1,by omega,by go_num,f,fun r g=>?_⟩;rw[B,dm] at g;rcases g with g | g
       . exact c r g
       . rw[cD] at g;subst g;exact j
      case measure=>simp[intOf];omega
  . obtain rfl:k=l.length:=by omega
    have u:qc l id=-1:=rl (Qm l id fun p q=>c p (by rw[fD];exact q));go_wp2;go_ret;exact⟨by rw[u];rfl,i⟩
theorem qA (s:aA)(S:Nat->Prop)(g:Nat)(id:Int)(w:X)(h:cE w S g s)(t:s.l.length<=1000):
 Calls prog 67 #[Q (M ⟨g,0,U⟩),I J id] w fun e w'=>e=Y (I J (qc s.l id))∧Below w.heap.size w w':=by
 have b:Below w.heap.size w (w.alloc (K #[I J id] 3)):=(aq _ _).alloc (ak _) _;have k:=h.f;obtain⟨f,a,c,m,n,o,u,v,i⟩:=h.e;have q:=KK s.l id f a s.l.length w.heap.size (w.alloc (K #[I J id] 3)) (i.f.a b) i.e rfl (by omega) (World.cell?_alloc_mark w _ _ _ 0);have x:(w.alloc (K #[I J id] 3)).cell? ⟨g,0,U⟩=M (Z f s.l.length a):=by rw[b.cell (p:=⟨g,0,U⟩) k];exact c
 have y:∀(j:Fn) (first a:Array Value) (w:X),(Instr.makeFunc j first a).run prog w=.ok (.func j first a) w:=fun _ _ _ _=>rfl;generalize s.l=l at *;go_enter func67,ntmps67;go_wp2_with fail;refine q.mono ?_;rintro e z ⟨rfl,r⟩;have d:=ar b r;go_wp2;go_ret;exact⟨rfl,d⟩
theorem Rx (s:aA)(S:Nat->Prop)(g:Nat)(w:X)(h:cE w S g s)(D:s.l.length<=1000)(G:cH s.l<=1000000):
 Calls prog 255 #[Q (M ⟨g,0,U⟩)] w fun e w'=>e=Y (I J (cH s.l))∧Below w.heap.size w w':=by
 obtain⟨L,r,c,d,u,x,N,T,i⟩:=h.e;have H:=i.f;have j:=i.e;generalize s.l=l at *;go_enter func255,ntmps255;go_wp2;go_loopw [3,11] (fun v t wr=>∃k:Nat,k<=l.length∧t=I J k∧v=I J (cH (l.take k):Int)∧Below w.heap.size w wr) (fun _ t _=>l.length-(intOf t).toNat)
 case atStart=>exact⟨0,ax _,rfl,rfl,aq _ _⟩
 case round =>
  obtain⟨k,W,rfl,rfl,b⟩:=hrel;have hu:=Ha l k;by_cases a:k<l.length
  . obtain⟨bb,oo,s,rfl,c,d,y,z,B,_⟩:=(H.a b).d k a;have m:(k:Int)<l.length:=by omega
    have C:cH (l.take (k+1))=cH (l.take k)+l[k].a.length:=G5 l k a;have n:=Ql l k a;have f:∀o,Below w.heap.size w (wr.alloc o):=fun o=>b.alloc b.size _;generalize l[k]=p at *;generalize cH (l.take k)=q at *;go_wp2;go_roundw
    case rel =>
     exact⟨k+1,by omega,by go_num,by rw[C];go_num,f _⟩
    case measure=>simp[intOf];omega
  . obtain rfl:k=l.length:=by omega
    go_wp2;go_ret;exact⟨by rw[fD];rfl,b⟩
theorem lF (w:X)(n:Nat):Below w.heap.size w (w.drewN n):=⟨rfl,rfl,rfl,ak _,fun _ _=>rfl⟩
structure bG (S:Nat->Prop)(tO:Nat)(w:X)(g:Nat)(r:aA×Nat)(e:Ending)(w':X):Prop where
 d:e=Y (I J (r.2:Int))
 b:gY w' (aB S w) tO 92 5 g r.1
 c:al S w w'
def lG (w:X)(g gu n:Nat):Prop:=∃cap,n<=cap∧w.cell? ⟨g,0,U⟩=M (Z (M ⟨gu,0,U⟩) n cap)
section
variable {w w':X} {S:Nat->Prop} {tO g gu i:Nat} {s:aA}
theorem bG.a {c:Nat}(h:gY w S tO 92 5 g s)(a:Below w.heap.size w w'){r:aA×Nat}(b:r=(s,c)):bG S tO w g r (Y (I J (c:Int))) w':=by
 subst b;exact⟨rfl,(h.a a).d (fun k _ e=>A e),al.d a⟩
theorem bG.j {j:Nat}{v:Value}{u:aL}(h:gY w S tO 92 5 g s)(x:lG w g gu s.l.length)(n:i<s.l.length)(y:j<5)(z:∀q,(du s.l[i] q).set j v=du u q)(B:u.a=s.l[i].a){r:aA×Nat}(C:r=(⟨s.l.set i u,s.a⟩,0)):bG S tO w g r (Y (I J 0)) (w.setCell ⟨gu,i*5+j,U⟩ v):=by
 subst C;obtain⟨L,d,D,N,T,W,G,H,o⟩:=h.e;obtain⟨p,Za,c⟩:=x;rw[D] at c;injection c with c;injection c with ha _ _;subst ha;obtain⟨f,t⟩:=o.jD n y z B;obtain⟨g2,a,b,_,_⟩:=o.d.a i n;injection a with a;injection a with a;subst a;have m:al S w (w.setCell ⟨gu,i*5+j,U⟩ v):=t.e (fun k e=>by subst e;exact b.1);refine⟨rfl,⟨M ⟨gu,0,U⟩,d,?_,A H,?_⟩,m⟩
 . have:=t.j G (fun e=>b.2 e.symm);simpa using this
 . exact f.a (fun k _ e=>⟨A e.1,e.2⟩)
theorem bG.f {a:X}{r:aA×Nat}{e:Ending}(b:Below w.heap.size w a)(h:bG S tO a g r e w'):bG S tO w g r e w':=by
 have c:=b.size;refine⟨h.d,h.b.d (fun k _ e=>?_),(al.d b).a h.c (fun _ e _=>e)⟩;rcases e with e | e
 . exact A e
 . exact Or.inr (by omega)
theorem lG.e {n:Nat}(h:lG w g gu n)(c:Below w.heap.size w w'):lG w' g gu n:=by
 obtain⟨a,d,b⟩:=h;exact⟨a,d,by rw[c.cell (bI w _ b)];exact b⟩
theorem lG.d (h:gY w S tO 92 5 g s)(c:i<s.l.length):∃gu,lG w g gu s.l.length:=by
 obtain⟨f,a,d,j,k,m,n,o,b⟩:=h.e;obtain⟨e,rfl,_⟩:=b.d.a i c;exact⟨e,a,b.e,d⟩
theorem lG.a (h:gY w S tO 92 5 g s)(d:lG w g gu s.l.length)(e:i<s.l.length):∃q:eJ,w.cell? ⟨gu,i*5,U⟩=M (I J s.l[i].b)∧w.cell? ⟨gu,i*5+1,U⟩=M (I J s.l[i].c)∧w.cell? ⟨gu,i*5+2,U⟩=M (V s.l[i].d)∧w.cell? ⟨gu,i*5+3,U⟩=M (Z q.a s.l[i].a.length q.b)∧w.cell? ⟨gu,i*5+4,U⟩=M (I J s.l[i].e)∧(∀j,w.frozen? ⟨gu,j,U⟩=F)∧ay w q.a q.b s.l[i].a:=by
 obtain⟨x,f,k,y,z,B,C,D,m⟩:=h.e;obtain⟨c,G,b⟩:=d;rw[k] at b;injection b with b;injection b with ha _ _;subst ha;obtain⟨H,q,a,_,_,n,o,p,r,t,u,v,_⟩:=m.r i e;injection a with a;injection a with a;subst a;exact⟨q,n,o,p,r,t,u,v.f⟩
end
theorem Ow (s:aA)(S:Nat->Prop)(g a i:Nat)(w:X)(h:cE w S g s)(d:lG w g a s.l.length)(e:i<s.l.length):
 Calls prog 207 #[Q (M ⟨a,i*5,U⟩)] w (bG S 121 w g (ri s i s.l[i])):=by
 obtain⟨q,n,o,p,r,f,j,t⟩:=lG.a h d e;have k:=j (i*5+4);by_cases b:s.l[i].e=1
 . have c:∀W,W=w.setCell ⟨a,i*5+4,U⟩ (I J 2)->bG S 121 w g (ri s i s.l[i]) (Y (I J 0)) W:=fun W m=>by
    rw[m];exact bG.j (u:={ s.l[i] with e:=2 }) h d e (by decide) (fun q=>rfl) rfl (by unfold ri;rw[if_neg (by simpa using b)])
   rw[b] at f;generalize s.l[i]=u at *;go_enter func207,ntmps207;go_wp2;go_ret;exact c _ rfl
 . have c:bG S 121 w g (ri s i s.l[i]) (Y (I J (19:Nat))) w:=bG.a h (aq _ _) (by unfold ri;rw[if_pos (by simpa using b)]);generalize s.l[i]=u at *;go_enter func207,ntmps207;go_wp2;go_ret;exact c
abbrev nO:=X->(Nat->Prop)->Nat->av->Prop
structure oR (O:nO):Prop where
 b:∀{w w':X} {S S':Nat->Prop} {g:Nat} {s:av},O w S g s->al S' w w'->(∀k,S k->¬S' k)->O w' S g s
 a:∀{w:X} {S S':Nat->Prop} {g:Nat} {s:av},O w S g s->(∀k,k<w.heap.size->S k->S' k)->O w S' g s
structure uy (O:nO)(S:Nat->Prop)(w:X)(g:Nat)(r:av×jk)(e:Ending)(w':X):Prop where
 c:∃(ao:ai) (cap n:Nat),e=Y (.agg #[I J (r.2.1:Int),Z ao n cap,Z U 0 0])∧r.2.2.length=n∧aG w' w.heap.size 128 2 ao cap n (aI r.2.2)
 b:O w' (aB S w) g r.1
 d:al S w w'
structure cj (O:nO)(S:Nat->Prop)(w:X)(g:Nat)(bs:List Obj)(s:av)(S':Nat->Prop)(W:X):Prop where
 l:∀i,i<bs.length->W.heap[w.heap.size+i]? = bs[i]?
 b:O W S' g s
 h:∀k,S' k->(S k∧k<w.heap.size)∨w.heap.size+bs.length<=k
 j:al (fun k=>S k∧k<w.heap.size) w W
 c:w.heap.size+bs.length<=W.heap.size
section
variable {O:nO} {S S' S'':Nat->Prop} {w W W':X} {g:Nat} {bs:List Obj} {s s':av}
theorem cj.G (L:oR O)(h:O w S g s):cj O S w g [] s (fun k=>S k∧k<w.heap.size) w :=
 ⟨fun i a=>by simp at a,L.a h (fun k b e=>⟨e,b⟩),fun k e=>A e,al.r _ _,by simp⟩
theorem cj.a (L:oR O)(h:cj O S w g bs s S' W)(a:Below W.heap.size W W'):cj O S w g bs s S' W':=by
 have b:=h.c;refine⟨fun i c=>(a.block _ (by omega)).trans (h.l i c),L.b h.b (al.d (S:=fun _=>False) a) (fun _ _ e=>e),h.h,h.j.a (al.d (S:=fun _=>False) a) (fun _ e _=>e.elim),ce b a.size⟩
theorem cj.q (L:oR O)(h:cj O S w g bs s S' W)(d:W.heap.size=w.heap.size+bs.length)(f:∀k,S' k->k<W.heap.size)(o:Obj):cj O S w g (bs++[o]) s S' (W.alloc o):=by
 have j:=(aq _ W).alloc (ak _) o;have a:=h.a L j;refine⟨fun i l=>?_,a.b,fun k e=>?_,a.j,by rw[ch];simp;omega⟩
 . rcases fe i bs.length with b | b
   . rw[ql b];exact a.l i b
   . have:i=bs.length:=by simp at l;omega
     subst this;rw[qq (ak _),Nat.sub_self,<-d];exact bw W o
 . rcases h.h k e with c | c
   . exact A c
   . have:=f k e;omega
theorem cj.f (h:cj O S w g bs s S' W)(c:O W' (aB S' W) g s')(b:al S' W W'):cj O S w g bs s' (aB S' W) W':=by
 have d:=h.c;refine⟨fun i f=>?_,c,fun k e=>?_,h.j.a b (fun k e j=>?_),ce d b.b⟩
 . refine(b.c _ (by omega) (fun e=>?_)).trans (h.l i f);rcases h.h _ e with a | a
   . omega
   . omega
 . rcases e with e | e
   . exact h.h k e
   . exact Or.inr (by omega)
 . rcases h.h k e with a | a
   . exact a
   . omega
theorem cj.ku (h:cj O S w g bs s S' W)(c:O W' S' g s')(b:al S' W W'):cj O S w g bs s' S' W':=by
 have d:=h.c;refine⟨fun i f=>?_,c,h.h,h.j.a b (fun k e j=>?_),ce d b.b⟩
 . refine(b.c _ (by omega) (fun e=>?_)).trans (h.l i f);rcases h.h _ e with a | a
   . omega
   . omega
 . rcases h.h k e with a | a
   . exact a
   . omega
theorem cj.B (h:cj O S w g bs s S' W)(i:Nat){o:Obj}(a:bs[i]? = M o):W.heap[w.heap.size+i]? = M o:=(h.l i (fB.1 a).1).trans a
theorem cj.e (L:oR O)(h:cj O S w g bs s S' W){i:Nat}(q:bs[i]? = M (K #[I J 0,Z U 0 0,Z U 0 0] 106 (0,0))){b:Nat}(x:w.heap.size+i=b){st:Nat}{mY:Int}(j:(st:Int)=mY){l:aC}{ao:ai}{cap n:Nat}(y:l.length=n){c:Nat}(m:w.heap.size<=c)(t:aG W' c 128 2 ao cap n (aI l))(z:Below W.heap.size W W'):
 (W'.cell? ⟨b,0,U⟩=M (I J 0)∧W'.cell? ⟨b,1,U⟩=M (Z U 0 0)∧W'.cell? ⟨b,2,U⟩=M (Z U 0 0)∧W'.frozen? ⟨b,0,U⟩=F∧W'.frozen? ⟨b,1,U⟩=F∧W'.frozen? ⟨b,2,U⟩=F) ∧
 Hid ((((W'.setCell ⟨b,0,U⟩ (I J mY)).setCell ⟨b,1,U⟩ (Z ao n cap)).setCell ⟨b,2,U⟩ (Z U 0 0)).cell? ⟨b,0,U⟩=M (I J mY)∧(((W'.setCell ⟨b,0,U⟩ (I J mY)).setCell ⟨b,1,U⟩ (Z ao n cap)).setCell ⟨b,2,U⟩ (Z U 0 0)).cell? ⟨b,1,U⟩=M (Z ao n cap)∧(((W'.setCell ⟨b,0,U⟩ (I J mY)).setCell ⟨b,1,U⟩ (Z ao n cap)).setCell ⟨b,2,U⟩ (Z U 0 0)).cell? ⟨b,2,U⟩=M (Z U 0 0)∧uy O S w g (s,(st,l)) (Y (.agg #[I J mY,Z ao n cap,Z U 0 0])) (((W'.setCell ⟨b,0,U⟩ (I J mY)).setCell ⟨b,1,U⟩ (Z ao n cap)).setCell ⟨b,2,U⟩ (Z U 0 0))):=by
 subst x;subst j;have o:=h.a L z;have B:=(fB.1 q).1;have G:=h.c;have r:=o.B i q;refine⟨⟨am W' _ 0 _ _ _ r,am W' _ 1 _ _ _ r,am W' _ 2 _ _ _ r,aD W' _ 0 _ _ r,aD W' _ 1 _ _ r,aD W' _ 2 _ _ r⟩,?_⟩;have C:=aQ W' (w.heap.size+i) 0 _ _ (I J (st:Int)) r;have D:=aQ _ (w.heap.size+i) 1 _ _ (Z ao n cap) C;have p:=aQ _ (w.heap.size+i) 2 _ _ (Z U 0 0) D;have d:=gX (w.heap.size+i) [I J (st:Int),Z ao n cap,Z U 0 0] 0 W';replace d:al (fun k=>k=w.heap.size+i) W' (((W'.setCell ⟨w.heap.size+i,0,U⟩ (I J (st:Int))).setCell ⟨w.heap.size+i,1,U⟩ (Z ao n cap)).setCell ⟨w.heap.size+i,2,U⟩ (Z U 0 0)):=d;refine⟨am _ _ 0 _ _ _ p,am _ _ 1 _ _ _ p,am _ _ 2 _ _ _ p,⟨⟨ao,cap,n,rfl,y,?_⟩,?_,?_⟩⟩
 . have u:=iJ r t (by decide);rw[dI] at u;exact(t.e d (fun a e v=>u (by rw[e];show M a.block=_;rw[v]))).j m
 . refine L.a (L.b o.b d (fun k e v=>?_)) (fun k _ e=>?_)
   . rcases h.h k e with f | f
     . omega
     . omega
   . rcases h.h k e with f | f
     . exact A f.1
     . exact Or.inr (by omega)
 . exact(o.j.a d (fun k e H=>by omega)).e (fun k e=>e.1)
theorem cj.lH (L:oR O)(h:cj O S w g bs s S' W){b:Nat}(a:al (fun k=>k=b) W W')(l:w.heap.size+bs.length<=b)(c:¬S' b):cj O S w g bs s S' W':=by
 have d:=h.c;refine⟨fun i f=>(a.c _ (by omega) (by omega)).trans (h.l i f),L.b h.b a (fun k e j=>c (by rw[<-j];exact e)),h.h,h.j.a a (fun k e m=>by omega),ce d a.b⟩
end
theorem nR (n v:ag)(w:X):Calls prog 119 #[V n,V v] w fun e w'=>e=Y (.agg #[V n,V v])∧Below w.heap.size w w':=by
 have a:(w.alloc (K #[V n,V v] 128)).cell? ⟨w.heap.size,0,U⟩=M (V n):=World.cell?_alloc_mark w _ _ _ 0;have b:(w.alloc (K #[V n,V v] 128)).cell? ⟨w.heap.size,1,U⟩=M (V v):=World.cell?_alloc_mark w _ _ _ 1;go_enter func119,ntmps119;go_wp2;exact aR (v:=.agg #[V n,V v]) (by simp[results,results119,go_sem,a,b]) rfl ⟨rfl,(aq _ w).alloc (ak _) _⟩
def bZ (st:Int)(ao:ai)(n cap:Nat):Ending:=.panicked [{ v:=.iface 191 (.agg #[I J st,Z ao n cap,Z U 0 0]),recovered:=F }]
def hQ (w:X)(r:jk)(e:Ending)(w':X):Prop:=∃(ao:ai) (cap n:Nat),e=bZ (r.1:Int) ao n cap∧r.2.length=n∧aG w' w.heap.size 128 2 ao cap n (aI r.2)∧Below w.heap.size w w'
def vp (w:X)(r:jk)(e:Ending)(w':X):Prop:=∃(ao:ai) (cap n:Nat),e=Y (.agg #[I J (r.1:Int),Z ao n cap,Z U 0 0])∧r.2.length=n∧aG w' w.heap.size 128 2 ao cap n (aI r.2)∧Below w.heap.size w w'
theorem hQ.d {w b w':X}{r:jk}{e:Ending}(c:Below w.heap.size w b)(h:hQ b r e w'):hQ w r e w':=by
 obtain⟨d,a,n,f,g,i,j⟩:=h;exact⟨d,a,n,f,g,i.j c.size,ar c j⟩
theorem Db (st:Nat)(mY:Int)(u:(st:Int)=mY)(l:aC)(H:ai)(L n:Nat)(w:X)(hl:bx w H L n (aI l))(hn:l.length=n)(hN:n<=1000):
 Calls prog 125 #[I J mY,Z H n L] w fun e w'=>vp w (bY st l) e w':=by
 obtain⟨i0,x,y,z,B⟩:=info_parts pv;have Hi:=x;have kT:=aa y;have kL:=aa z;have kU:=aa B
 have HL:=hl;have N:=aa hn;have C:=aa u
 have jm:=(aq _ w).alloc (ak _) (K #[I J 0,Z U 0 0,Z U 0 0] 106);go_enter func125,ntmps125;go_wp2_with fail;refine(nR fQ cI (w.alloc (K #[I J 0,Z U 0 0,Z U 0 0] 106))).mono ?_;rintro e p ⟨rfl,r⟩;have s:=(r.block w.heap.size (by simp)).trans (bw w _);have D:=(bH.1 s).1;have m:=ar (ar jm r) ((aq _ p).alloc (ak _) (K #[V fQ,V cI] 128));have hO:aG (p.alloc (K #[V fQ,V cI] 128)) w.heap.size 128 2 (M ⟨p.heap.size,0,U⟩) 1 1 [V fQ,V cI]:=tN p #[V fQ,V cI] 1 (by omega) (by decide) rfl;have t:=(((aq _ p).alloc (ak _) (K #[V fQ,V cI] 128)).block w.heap.size D).trans s;have S:=aa (HL.a m);have T:=aa hO;have W:Hid (∀(d:ai) (f:Nat) (b:X),aG b w.heap.size 128 2 d f (1+n) ([V fQ,V cI]++aI l)->(p.alloc (K #[V fQ,V cI] 128)).grownBy b (M p.heap.size)->(b.cell? ⟨w.heap.size,0,U⟩=M (I J 0)∧b.cell? ⟨w.heap.size,1,U⟩=M (Z U 0 0)∧b.cell? ⟨w.heap.size,2,U⟩=M (Z U 0 0)∧b.frozen? ⟨w.heap.size,0,U⟩=F∧b.frozen? ⟨w.heap.size,1,U⟩=F∧b.frozen? ⟨w.heap.size,2,U⟩=F) ∧
  Hid ((((b.setCell ⟨w.heap.size,0,U⟩ (I J mY)).setCell ⟨w.heap.size,1,U⟩ (Z d (1+n) f)).setCell ⟨w.heap.size,2,U⟩ (Z U 0 0)).heap[w.heap.size]? = M (K #[I J mY,Z d (1+n) f,Z U 0 0] 106 (0,0))∧vp w (bY st l) (Y (.agg #[I J mY,Z d (1+n) f,Z U 0 0])) (((b.setCell ⟨w.heap.size,0,U⟩ (I J mY)).setCell ⟨w.heap.size,1,U⟩ (Z d (1+n) f)).setCell ⟨w.heap.size,2,U⟩ (Z U 0 0)))):=fun d f b g i=>by
  have c:=(i.block _ (bH.1 t).1 (fun e=>by injection e with e;omega)).trans t;refine⟨⟨am b _ 0 _ _ _ c,am b _ 1 _ _ _ c,am b _ 2 _ _ _ c,aD b _ 0 _ _ c,aD b _ 1 _ _ c,aD b _ 2 _ _ c⟩,?_⟩;have r0:=aQ b w.heap.size 0 _ _ (I J mY) c;have r1:=aQ _ w.heap.size 1 _ _ (Z d (1+n) f) r0;have r2:=aQ _ w.heap.size 2 _ _ (Z U 0 0) r1;refine⟨r2,d,f,1+n,by rw[<-C.o];rfl,?_,?_,?_⟩
  . show(_::l).length=1+n;have:=N.o;simp only[bO];omega
  . have nz:=iJ c g (by decide);rw[dI] at nz;exact g.e (gX w.heap.size [I J mY,Z d (1+n) f,Z U 0 0] 0 b) (fun a e e2=>nz (by rw[e];show M a.block=_;rw[e2]))
  . have h3:Below w.heap.size w b:=m.grown i m.size (fun q e=>by injection e with e;omega);exact h3.trans ((gX w.heap.size [I J mY,Z d (1+n) f,Z U 0 0] 0 b).below (fun k e=>by omega) h3.size)
 have HZ:Hid (w.heap.size<=(p.alloc (K #[V fQ,V cI] 128)).heap.size):=m.size;have Zh:(aI l).length=n*2:=by rw[rI,N.o]
 unfold fQ cI at T S W HZ;go_wp2_with (at_builtin;refine fE rfl (.tmp 7) (.tmp 8) 80 rfl w.heap.size 128 i0 (.agg #[V ⟨#[]⟩,V ⟨#[]⟩]) 2 32 underlying80 Hi kT.o kL.o kU.o rfl (by decide) rfl T.o rfl S.o Zh (EL l) (by omega) (by omega) HZ.o ?_;intro d f b g i _;obtain⟨⟨x0,x1,x2,y0,y1,y2⟩,HX⟩:=W.o d f b g i;clear g i)
 generalize (((b.setCell ⟨w.heap.size,0,U⟩ (I J mY)).setCell ⟨w.heap.size,1,U⟩ (Z d (1+n) f)).setCell ⟨w.heap.size,2,U⟩ (Z U 0 0))=G at *;obtain⟨j,hD⟩:=HX.o;have q0:=am G _ 0 _ _ _ j;have q1:=am G _ 1 _ _ _ j;have q2:=am G _ 2 _ _ _ j;exact aR (v:=.agg #[I J mY,Z d (1+n) f,Z U 0 0]) (by simp[results,results125,go_sem,q0,q1,q2]) rfl hD
theorem oG (st:Nat)(mY:Int)(a:(st:Int)=mY)(l:aC)(b:ai)(c n:Nat)(w:X)(d:bx w b c n (aI l))(f:l.length=n)(g:n<=1000):
 Calls prog 125 #[I J mY,Z b n c] w fun e w'=>∃(ao:ai) (cap k:Nat),e=Y (.agg #[I J mY,Z ao k cap,Z U 0 0])∧((fQ,cI)::l).length=k∧aG w' w.heap.size 128 2 ao cap k (aI ((fQ,cI)::l))∧Below w.heap.size w w':=by
 subst a;exact Db st _ rfl l b c n w d f g
theorem gv (mY:Int)(a:ai)(n b:Nat)(w:X):Calls prog 118 #[.bool true,I J mY,Z a n b] w fun e w'=>e=Y (.tuple #[])∧w'=w:=by
 go_enter func118,ntmps118;go_wp2;go_end0
 exact⟨rfl,rfl⟩
theorem wZ (st:Nat)(mY:Int)(b:(st:Int)=mY)(l:aC)(c:ai)(d n:Nat)(w:X)(g:bx w c d n (aI l))(i:l.length=n)(j:n<=1000):
 Calls prog 118 #[.bool F,I J mY,Z c n d] w fun e w'=>hQ w (bY st l) e w':=by
 go_enter func118,ntmps118;go_wp2_with fail;refine(Db st mY b l c d n w g i j).mono ?_;rintro e k ⟨f,a,m,rfl,o,p,q⟩;have r:hQ w (bY st l) (bZ ((bY st l).1:Int) f m a) k:=⟨f,a,m,rfl,o,p,q⟩;go_wp2;exact⟨rfl,r⟩
theorem iI (st:Nat)(mY:Int)(a:(st:Int)=mY)(w:X):Calls prog 118 #[.bool F,I J mY,Z U 0 0] w fun e w'=>hQ w (bY st []) e w' :=
 wZ st mY a [] U 0 0 w (bx.f w) rfl (by decide)
theorem RA (i z t:Int)(m:ag)(bo:ai)(n gF:Nat)(w:X):
 Calls prog 203 #[.agg #[I J i,I J z,V m,Z bo n gF,I J t]] w fun e w'=>e=Y (.bool (decide (z=n)))∧w'=w.alloc (K #[I J i,I J z,V m,Z bo n gF,I J t] 92):=by
 go_enter func203,ntmps203;go_wp2;go_ret;exact⟨rfl,rfl⟩
theorem SX (b o:Nat)(z:Int)(w:X)(d:w.cell? ⟨b,o+1,U⟩=M (I J z)):
 Calls prog 254 #[Q (M ⟨b,o,U⟩)] w fun e w'=>e=Y (I J (if z=-1 then 2000 else z))∧w'=w:=by
 by_cases a:z=-1
 . subst a;go_enter func254,ntmps254;go_wp2;go_ret;exact⟨rfl,rfl⟩
 . have c:=aa a;go_enter func254,ntmps254;go_wp2;go_ret;exact⟨by first | rfl | (rw[if_neg c.o];rfl),rfl⟩
theorem OA (s:aA)(S:Nat->Prop)(g f i:Nat)(w:X)(h:cE w S g s)(n:lG w g f s.l.length)(p:i<s.l.length):
 Calls prog 202 #[Q (M ⟨f,i*5,U⟩)] w (bG S 121 w g (pg s i s.l[i])):=by
 obtain⟨q,G,H,L,N,v,x,y⟩:=lG.a h n p;by_cases c:s.l[i].e=0
 . have d:=aa (RA s.l[i].b s.l[i].c s.l[i].e s.l[i].d q.a s.l[i].a.length q.b w);have b:∀a,Below w.heap.size w (w.alloc a):=fun a=>(aq _ _).alloc (ak _) _;by_cases j:s.l[i].c=s.l[i].a.length
   . have k:∀W a,W=w.alloc a->W.frozen? ⟨f,i*5+4,U⟩=F∧W.cell? ⟨f,i*5+4,U⟩=M (I J s.l[i].e)∧bG S 121 w g (pg s i s.l[i]) (Y (I J 0)) (W.setCell ⟨f,i*5+4,U⟩ (I J 1)):=fun W a r=>by
      subst r;obtain⟨T,_,_,_,_,z,B,_⟩:=lG.a (h.a (b a)) (n.e (b a)) p;exact⟨B _,z,bG.f (b a) (bG.j (u:={ s.l[i] with e:=1 }) (h.a (b a)) (n.e (b a)) p (by decide) (fun q=>rfl) rfl (by unfold pg;rw[if_neg (by simpa using c),if_neg (by simpa using j)]))⟩
     rw[aV j] at d;rw[c] at d v;clear h n x y j b c;generalize s.l[i]=u at *;go_enter func202,ntmps202;go_wp2_with fail;refine d.o.mono ?_;rintro e C ⟨rfl,m⟩;obtain⟨r1,r2,D⟩:=k _ _ m;clear  m;go_wp2;go_ret;exact D
   . have k:Hid (∀W a,W=w.alloc a->bG S 121 w g (pg s i s.l[i]) (Y (I J (14:Nat))) W):=fun W a r=>by
      subst r;exact bG.a h (b a) (by unfold pg;rw[if_neg (by simpa using c),if_pos (by simpa using j)])
     rw[aW j] at d;rw[c] at d v;generalize s.l[i]=u at *;go_enter func202,ntmps202;go_wp2_with fail;refine d.o.mono ?_;rintro e C ⟨rfl,m⟩;have t:=aa m;clear m;go_wp2;go_ret;exact k.o _ _ t.o
 . have k:bG S 121 w g (pg s i s.l[i]) (Y (I J (19:Nat))) w:=bG.a h (aq _ _) (by unfold pg;rw[if_pos (by simpa using c)]);generalize s.l[i]=u at *;go_enter func202,ntmps202;go_wp2;go_ret;exact k
theorem OB (s:aA)(S:Nat->Prop)(g j i o:Nat)(a:Int)(w:X)(h:cE w S g s)(p:lG w g j s.l.length)(t:i<s.l.length)(v:-1<=s.l[i].c)(C:w.cell? ⟨o,0,U⟩=M (I J a)):
 Calls prog 256 #[Q (M ⟨j,i*5,U⟩),Q (M ⟨o,0,U⟩)] w (bG S 121 w g (kv s a i s.l[i])):=by
 obtain⟨q,D,G,H,L,N,x,T⟩:=lG.a h p t;by_cases W:s.l[i].c=-1
 . have k:¬0<=s.l[i].c:=by omega
   by_cases b:a<0
   . have d:bG S 121 w g (kv s a i s.l[i]) (Y (I J (1:Nat))) w:=bG.a h (aq _ _) (by unfold kv;rw[if_neg k,if_pos b]);generalize s.l[i]=u at *;go_enter func256,ntmps256;go_wp2;go_ret;exact d
   . have tn:decide (a<0)=F:=by rw[cz];exact b
     by_cases e:2000<a
     . have d:∀n,bG S 121 w g (kv s a i s.l[i]) (Y (I J (4:Nat))) (w.drewN n):=fun n=>bG.a (c:=4) (r:=kv s a i s.l[i]) h (lF w n) (by unfold kv;rw[if_neg k,if_neg b,if_pos (A e)]);have y:decide (a > 2000)=true:=by rw[bS];exact e
       generalize s.l[i]=u at *;go_enter func256,ntmps256;go_wp2;go_quiet (fail)
       go_wp2;go_ret;exact d _
     . have y:decide (a > 2000)=F:=by rw[cz];omega
       by_cases f:a<s.l[i].a.length
       . have d:∀n,bG S 121 w g (kv s a i s.l[i]) (Y (I J (4:Nat))) (w.drewN n):=fun n=>bG.a (c:=4) (r:=kv s a i s.l[i]) h (lF w n) (by unfold kv;rw[if_neg k,if_neg b,if_pos (Or.inr f)]);have z:decide (a<(s.l[i].a.length:Int))=true:=by rw[bS];exact f
         generalize s.l[i]=u at *;go_enter func256,ntmps256;go_wp2;go_quiet (fail)
         go_wp2;go_ret;exact d _
       . have m:=lF w;have d:∀n,bG S 121 w g (kv s a i s.l[i]) (Y (I J 0)) ((w.drewN n).setCell ⟨j,i*5+1,U⟩ (I J a)):=fun n =>
          bG.f (m n) (bG.j (u:={ s.l[i] with c:=a }) (h.a (m n)) (p.e (m n)) t (by decide) (fun q=>rfl) rfl (by unfold kv;rw[if_neg k,if_neg b,if_neg (by omega)]))
         have z:decide (a<(s.l[i].a.length:Int))=F:=by rw[cz];omega
         have B:w.frozen? ⟨j,i*5+1,U⟩=F:=x _;generalize s.l[i]=u at *;go_enter func256,ntmps256;go_wp2;go_quiet (fail)
         go_wp2;go_ret;exact d _
 . have d:bG S 121 w g (kv s a i s.l[i]) (Y (I J (18:Nat))) w:=bG.a h (aq _ _) (by unfold kv;rw[if_pos (by omega)]);generalize s.l[i]=u at *;go_enter func256,ntmps256;go_wp2;go_ret;exact d
theorem Ok (s:aA)(S:Nat->Prop)(g:Nat)(id:Int)(w:X)(h:cE w S g s)(G:s.l.length<=1000)(a:Nat->aL->aA×Nat)
 (B:∀b i t (u:i<s.l.length),Below w.heap.size w b->cE b S g s->lG b g t s.l.length->Calls prog 207 #[Q (M ⟨t,i*5,U⟩)] b (bG S 121 b g (a i s.l[i]))) :
 Calls prog 201 #[Q (M ⟨g,0,U⟩),I J id,.func (.func 207) #[] #[]] w (bG S 121 w g (cR s id a)):=by
 have j:=qA s S g id w h G;have C:=aa B;clear  B;cases m:cq s.l id with
 | none =>
   rw[rl m] at j;have H:∀W,Below w.heap.size w W->bG S 121 w g (cR s id a) (Y (I J (10:Nat))) W:=fun W d=>bG.a h d (rk m);go_enter func201,ntmps201;go_wp2_with fail;refine j.mono ?_;rintro e b ⟨rfl,d⟩;go_wp2;go_ret;exact H _ d
 | some i =>
   rw[qe m] at j;have u:=lk m;have v:cR s id a=a i (s.l[i]'u):=rj m;have x:=aa v;go_enter func201,ntmps201;go_wp2_with fail;refine j.mono ?_;rintro e b ⟨rfl,d⟩;have y:=h.a d;obtain⟨t,p⟩:=lG.d y u;have L:=aa (C.o b i t u d y p);have HB:=aa d;obtain⟨N,D,hc⟩:=p;have T:(i:Int)<s.l.length:=by omega
   have HD:Hid (∀e q,bG S 121 b g (a i s.l[i]) e q->bG S 121 w g (cR s id a) e q∧∃c:Nat,e=Y (I J (c:Int))):=fun e q f=>by
    have hsz:=d.size;refine⟨⟨by rw[x.o];exact f.d,?_,(al.d d).a f.c (fun _ e _=>e)⟩,_,f.d⟩;rw[x.o];refine f.b.d (fun k _ e=>?_);rcases e with e | e
    . exact A e
    . exact Or.inr (by omega)
   clear  y x  C j;generalize a i s.l[i]=r at *;generalize cR s id a=r2 at *;generalize s.l.length=n at *;go_wp2_with fail;refine L.o.mono ?_;intro e q f;obtain⟨z,c,rfl⟩:=HD.o e q f;go_wp2;go_ret;exact z
theorem Ol (s:aA)(S:Nat->Prop)(g:Nat)(id:Int)(w:X)(h:cE w S g s)(G:s.l.length<=1000)(a:Nat->aL->aA×Nat)
 (B:∀b i t (u:i<s.l.length),Below w.heap.size w b->cE b S g s->lG b g t s.l.length->Calls prog 202 #[Q (M ⟨t,i*5,U⟩)] b (bG S 121 b g (a i s.l[i]))) :
 Calls prog 201 #[Q (M ⟨g,0,U⟩),I J id,.func (.func 202) #[] #[]] w (bG S 121 w g (cR s id a)):=by
 have j:=qA s S g id w h G;have C:=aa B;clear  B;cases m:cq s.l id with
 | none =>
   rw[rl m] at j;have H:∀W,Below w.heap.size w W->bG S 121 w g (cR s id a) (Y (I J (10:Nat))) W:=fun W d=>bG.a h d (rk m);go_enter func201,ntmps201;go_wp2_with fail;refine j.mono ?_;rintro e b ⟨rfl,d⟩;go_wp2;go_ret;exact H _ d
 | some i =>
   rw[qe m] at j;have u:=lk m;have v:cR s id a=a i (s.l[i]'u):=rj m;have x:=aa v;go_enter func201,ntmps201;go_wp2_with fail;refine j.mono ?_;rintro e b ⟨rfl,d⟩;have y:=h.a d;obtain⟨t,p⟩:=lG.d y u;have L:=aa (C.o b i t u d y p);have HB:=aa d;obtain⟨N,D,hc⟩:=p;have T:(i:Int)<s.l.length:=by omega
   have HD:Hid (∀e q,bG S 121 b g (a i s.l[i]) e q->bG S 121 w g (cR s id a) e q∧∃c:Nat,e=Y (I J (c:Int))):=fun e q f=>by
    have hsz:=d.size;refine⟨⟨by rw[x.o];exact f.d,?_,(al.d d).a f.c (fun _ e _=>e)⟩,_,f.d⟩;rw[x.o];refine f.b.d (fun k _ e=>?_);rcases e with e | e
    . exact A e
    . exact Or.inr (by omega)
   clear  y x  C j;generalize a i s.l[i]=r at *;generalize cR s id a=r2 at *;generalize s.l.length=n at *;go_wp2_with fail;refine L.o.mono ?_;intro e q f;obtain⟨z,c,rfl⟩:=HD.o e q f;go_wp2;go_ret;exact z
theorem Om (s:aA)(S:Nat->Prop)(g:Nat)(id:Int)(w:X)(h:cE w S g s)(H:s.l.length<=1000)(B:Nat)(a:Nat->aL->aA×Nat)
 (C:∀b i t (u:i<s.l.length),Below w.heap.size w b->cE b S g s->lG b g t s.l.length->Calls prog 256 #[Q (M ⟨t,i*5,U⟩),Q (M ⟨B,0,U⟩)] b (bG S 121 b g (a i s.l[i]))) :
 Calls prog 201 #[Q (M ⟨g,0,U⟩),I J id,.func (.func 256) #[] #[Q (M ⟨B,0,U⟩)]] w (bG S 121 w g (cR s id a)):=by
 have j:=qA s S g id w h H;have D:=aa C;clear  C;cases m:cq s.l id with
 | none =>
   rw[rl m] at j;have L:∀W,Below w.heap.size w W->bG S 121 w g (cR s id a) (Y (I J (10:Nat))) W:=fun W d=>bG.a h d (rk m);go_enter func201,ntmps201;go_wp2_with fail;refine j.mono ?_;rintro e b ⟨rfl,d⟩;go_wp2;go_ret;exact L _ d
 | some i =>
   rw[qe m] at j;have u:=lk m;have v:cR s id a=a i (s.l[i]'u):=rj m;have x:=aa v;go_enter func201,ntmps201;go_wp2_with fail;refine j.mono ?_;rintro e b ⟨rfl,d⟩;have y:=h.a d;obtain⟨t,p⟩:=lG.d y u;have N:=aa (D.o b i t u d y p);have HB:=aa d;obtain⟨T,G,hc⟩:=p;have hi':(i:Int)<s.l.length:=by omega
   have HD:Hid (∀e q,bG S 121 b g (a i s.l[i]) e q->bG S 121 w g (cR s id a) e q∧∃c:Nat,e=Y (I J (c:Int))):=fun e q f=>by
    have hsz:=d.size;refine⟨⟨by rw[x.o];exact f.d,?_,(al.d d).a f.c (fun _ e _=>e)⟩,_,f.d⟩;rw[x.o];refine f.b.d (fun k _ e=>?_);rcases e with e | e
    . exact A e
    . exact Or.inr (by omega)
   clear  y x  D j;generalize a i s.l[i]=r at *;generalize cR s id a=r2 at *;generalize s.l.length=n at *;go_wp2_with fail;refine N.o.mono ?_;intro e q f;obtain⟨z,c,rfl⟩:=HD.o e q f;go_wp2;go_ret;exact z
theorem On (s:aA)(S:Nat->Prop)(g:Nat)(id:Int)(w:X)(h:cE w S g s)(N:s.l.length<=1000)(B C D:Nat)(a:Nat->aL->aA×Nat)
 (G:∀b i t (u:i<s.l.length),Below w.heap.size w b->cE b S g s->lG b g t s.l.length->Calls prog 253 #[Q (M ⟨t,i*5,U⟩),Q (M ⟨B,0,U⟩),Q (M ⟨C,0,U⟩),Q (M ⟨D,0,U⟩)] b (bG S 121 b g (a i s.l[i]))) :
 Calls prog 201 #[Q (M ⟨g,0,U⟩),I J id,.func (.func 253) #[] #[Q (M ⟨B,0,U⟩),Q (M ⟨C,0,U⟩),Q (M ⟨D,0,U⟩)]] w (bG S 121 w g (cR s id a)):=by
 have j:=qA s S g id w h N;have H:=aa G;clear  G;cases m:cq s.l id with
 | none =>
   rw[rl m] at j;have T:∀W,Below w.heap.size w W->bG S 121 w g (cR s id a) (Y (I J (10:Nat))) W:=fun W d=>bG.a h d (rk m);go_enter func201,ntmps201;go_wp2_with fail;refine j.mono ?_;rintro e b ⟨rfl,d⟩;go_wp2;go_ret;exact T _ d
 | some i =>
   rw[qe m] at j;have u:=lk m;have v:cR s id a=a i (s.l[i]'u):=rj m;have x:=aa v;go_enter func201,ntmps201;go_wp2_with fail;refine j.mono ?_;rintro e b ⟨rfl,d⟩;have y:=h.a d;obtain⟨t,p⟩:=lG.d y u;have HC:=aa (H.o b i t u d y p);have HB:=aa d;obtain⟨cap,L,hc⟩:=p;have hi':(i:Int)<s.l.length:=by omega
   have HD:Hid (∀e q,bG S 121 b g (a i s.l[i]) e q->bG S 121 w g (cR s id a) e q∧∃c:Nat,e=Y (I J (c:Int))):=fun e q f=>by
    have hsz:=d.size;refine⟨⟨by rw[x.o];exact f.d,?_,(al.d d).a f.c (fun _ e _=>e)⟩,_,f.d⟩;rw[x.o];refine f.b.d (fun k _ e=>?_);rcases e with e | e
    . exact A e
    . exact Or.inr (by omega)
   clear  y x  H j;generalize a i s.l[i]=r at *;generalize cR s id a=r2 at *;generalize s.l.length=n at *;go_wp2_with fail;refine HC.o.mono ?_;intro e q f;obtain⟨z,c,rfl⟩:=HD.o e q f;go_wp2;go_ret;exact z
theorem Jw (l:ae)(bo:ai)(gF n:Nat)(w:X)(q:ay w bo gF l)(r:l.length=n)(H:n<=140737488355328):
 Calls prog 112 #[Z bo n gF] w fun e w'=>∃ao cap,e=Y (Z ao n cap)∧bM w' (fun k=>w.heap.size<=k) 5 ao cap l∧Below w.heap.size w w':=by
 have L:∀(w:X) (a:ai) (n c d f:Nat),(binOp .eql 31 (Z a n c) (Z U d f)).run prog w=.ok (.bool a.isNone) w:=fun w a n c d f=>Lib.run_eql_slice_nil w _ _ a n c d f underlying31;cases bo with
 | none =>
   obtain⟨rfl,rfl⟩:=q.E;subst r;go_enter func112,ntmps112;go_wp2;go_ret;exact⟨U,0,rfl,bM.d _ _ _,aq _ _⟩
 | some a =>
   have t:=q;have u:=aa r
   obtain⟨v,g,i,j,m⟩:=info_parts il;have x:=g;have y:=aa i;have z:=aa j;have B:=aa m
   go_enter func112,ntmps112;go_wp2_with (at_builtin;refine yH (S:=fun _=>False) rfl (.tmp 5) (.tmp 6) 31 rfl 5 v underlying31 x y.o z.o B.o (l:=[]) rfl rfl (Or.inr ⟨rfl,rfl⟩) rfl (t.jK _) u.o (by omega) ?_;intro C D N b s;have G:=aa b;have p:=aa s;clear b s)
   go_ret;refine⟨C,D,by simp,?_,?_⟩
   . have:=G.o;rw[jo] at this;exact this.e (fun k _ e=>by
      rcases e with e | e
      . simp[ct] at e
      . simp at e;omega)
   . exact((aq _ _).alloc (ak _) _).trans (p.o.below (fun k e=>by simp[ct] at e) (by simp))
theorem FG (w:X):
 Calls prog 31 #[] w fun e w'=>e=Y (Q (M ⟨w.heap.size,0,U⟩))∧cE w' (fun k=>w.heap.size<=k) w.heap.size fA∧Below w.heap.size w w':=by
 have a:=(aq _ w).alloc (ak _) (K #[Z U 0 0,I J 0] 121);have b:cE (w.alloc (K #[Z U 0 0,I J 0] 121)) (fun k=>w.heap.size<=k) w.heap.size fA:=⟨U,0,bw w _,ak _,dY.E _ _ _ _⟩;go_enter func31,ntmps31;go_wp2;go_ret;exact⟨rfl,b,a⟩
def aS.d:aS->az
 | .head h=>⟨1,⟨h.c.toArray⟩,⟨h.b.toArray⟩,(h.e:Int),bL h.a,h.d,[],⟨#[]⟩,⟨#[]⟩,⟨#[]⟩,[],0⟩
 | .body b=>⟨2,⟨#[]⟩,⟨#[]⟩,0,[],0,b,⟨#[]⟩,⟨#[]⟩,⟨#[]⟩,[],0⟩
 | .fin=>⟨3,⟨#[]⟩,⟨#[]⟩,0,[],0,[],⟨#[]⟩,⟨#[]⟩,⟨#[]⟩,[],0⟩
 | .fail c=>⟨4,⟨#[]⟩,⟨#[]⟩,0,[],0,[],⟨#[]⟩,⟨#[]⟩,⟨#[]⟩,[],(c:Int)⟩
theorem zE (e:aS):e.d.b=2<->e.a=true:=by cases e <;> simp[aS.d,aS.a]
theorem TW (l:List aS):jF (l.map aS.d)=mL l:=by
 rcases mQ l with rfl | ⟨q,x,rfl⟩
 . rfl
 . rw[lA,lB,List.map_cons,List.map_nil,wN,Gs];by_cases h:x.a=true
   . rw[h];exact aV ((zE x).2 h)
   . rw[Bool.not_eq_true] at h;rw[h];exact aW (fun k=>by rw[(zE x).1 k] at h;cases h)
theorem UA {l:List aS}(g:eZ l)(e:aS):iN (l.map aS.d) e.d=(aH (l++[e])).map aS.d:=by
 by_cases c:e.a=true∧mL l=true
 . obtain⟨b,rfl⟩:∃b,e=.body b:=by
    cases e with
    | body b=>exact⟨b,rfl⟩
    | head _=>cases c.1
    | fin=>cases c.1
    | fail _=>cases c.1
   obtain⟨q,a,rfl⟩:=Gr l c.2;rw[Ps g,lB,List.map_cons,List.map_nil,uc _ _ _ rfl rfl,lB];rfl
 . have f:e.a=true->mL l=F:=fun i=>by
    cases f:mL l
    . rfl
    . exact absurd ⟨i,f⟩ c
   rw[Pv g f,rK _ _ (fun k=>by rw[TW];exact f ((zE e).1 k)),lB];rfl
theorem uU:∀l:List aS,dx (l.map aS.d)=bT l
 | []=>rfl
 | .body a::r=>by show a.length+dx (r.map aS.d)=a.length+bT r;rw[uU r]
 | .head _::r=>by show 0+dx (r.map aS.d)=bT r;rw[uU r];omega
 | .fin::r=>by show 0+dx (r.map aS.d)=bT r;rw[uU r];omega
 | .fail _::r=>by show 0+dx (r.map aS.d)=bT r;rw[uU r];omega
def pd (m t:ag)(l:aC):cf:=⟨m.data.toList,t.data.toList,0,fN l,0⟩
