/- Small texts, one behind the other: SqA, SqB, MemKp, TuA, TsA, SqD, RfHA, SqC, SlClone, SqNew, JnD, RqHdT. -/
import Derived.Test.YthhklgjjnaeaoaaGreatDoorPk15
import Derived.Test.YthhklgjjnaeaoaaGreatDoorPk21
import Derived.Test.YthhklgjjnaeaoaaGreatDoorFlB
open Go.Value renaming int->I,string->V,slice->Z,pointer->Q
open Go.IntKind renaming i64->J
open Go.Obj renaming cells->K
open Go.Ending renaming returned->Y
open Option renaming none->U,some->M
open Bool renaming false->F
open Or renaming inl->A
open Go renaming World->X
set_option maxHeartbeats 1600000
set_option maxRecDepth 100000
open Go.Proofs.Tryz
namespace Go.Proofs.YthhklgjjnaeaoaaGreatDoor
open Go.RowKit
abbrev gL (w:X)(S:Nat->Prop)(g:Nat)(s:Sp.St):Prop:=ny w S 124 92 5 g s
theorem Iz (i z t a:Int)(m:ay)(bo:ak)(n fU b:Nat)(w:X)(c:w.cell? ⟨b,0,U⟩=M (I J a)):
 Calls prog 112 #[.agg #[I J i,I J z,V m,Z bo n fU,I J t],Q (M ⟨b,0,U⟩)] w fun e w'=>e=Y (.bool (decide (i=a)))∧w'=w.alloc (K #[I J i,I J z,V m,Z bo n fU,I J t] 92):=by
 have d:=fH w _ c;have f:(w.alloc (K #[I J i,I J z,V m,Z bo n fU,I J t] 92)).cell? ⟨b,0,U⟩=M (I J a):=by
  rw[((eY w.heap.size w).alloc (aM _) _).cell (p:=⟨b,0,U⟩) d];exact c
 go_enter func112,ntmps112;go_wp2;go_ret;exact⟨rfl,rfl⟩
theorem DJ (l:List Sp.Up)(a:Int)(ao:ak)(cap n b:Nat)(w:X)(D:pU w ao cap l)(y:n<=cap)(G:l.length=n)(hN:n<=1000000)(z:w.cell? ⟨b,0,U⟩=M (I J a)):
 Calls prog 111 #[Z ao n cap,.func (.func 112) #[] #[Q (M ⟨b,0,U⟩)]] w fun e w'=>e=Y (I J (Sp.pl l a))∧Below w.heap.size w w':=by
 subst G;have H:=fH w _ z;go_enter func111,ntmps111;go_wp2;go_loopw [8] (fun t wr=>∃k:Nat,k<=l.length∧t=I J k∧Below w.heap.size w wr∧∀p∈l.take k,p.id≠a) (fun t _=>l.length-(intOf t).toNat)
 case atStart=>exact⟨0,aA _,rfl,eY _ _,fun p u=>by simp at u⟩
 case round =>
  obtain⟨k,hk,rfl,j,d⟩:=hrel;by_cases f:k<l.length
  . obtain⟨bb,oo,s,rfl,L,N,S,T,W,_⟩:=(D.stay j).at_ k f;have B:(k:Int)<l.length:=by omega
    have C:l.take (k+1)=l.take k++[l[k]]:=bM f;have q:=Iz l[k].id l[k].size l[k].sent a l[k].note s.bo l[k].bytes.length s.fU b wr (by rw[j.cell (p:=⟨b,0,U⟩) H];exact z);have c:Below w.heap.size w (wr.alloc (K #[I J l[k].id,I J l[k].size,V l[k].note,Z s.bo l[k].bytes.length s.fU,I J l[k].sent] 92)):=j.alloc j.size _;by_cases m:l[k].id=a
    . rw[aI m] at q;have v:Sp.pl l a=k:=Sp.tK (Sp.JH l a k f m d);clear m  C;generalize l[k]=p at *;go_wp2_with fail
      refine q.mono ?_;rintro e x ⟨rfl,o⟩;have g:Below w.heap.size w x:=by rw[o];exact c
      clear o c;go_wp2;go_ret;exact⟨by rw[v];rfl,g⟩
    . rw[aJ m] at q;generalize l[k]=p at *;go_wp2_with fail
      refine q.mono ?_;rintro e x ⟨rfl,o⟩;have g:Below w.heap.size w x:=by rw[o];exact c
      clear o c;go_wp2;go_roundw
      case rel =>
       refine⟨k+1,by omega,by go_num,g,fun r i=>?_⟩;rw[C,bq] at i;rcases i with i | i
       . exact d r i
       . rw[bA] at i;subst i;exact m
      case measure=>simp[intOf];omega
  . obtain rfl:k=l.length:=by omega
    have v:Sp.pl l a=-1:=Sp.tJ (Sp.UZ l a fun p u=>d p (by rw[bN];exact u));go_wp2;go_ret;exact⟨by rw[v];rfl,j⟩
theorem oD (s:Sp.St)(S:Nat->Prop)(g:Nat)(b:Int)(w:X)(h:gL w S g s)(u:s.l.length<=1000):
 Calls prog 69 #[Q (M ⟨g,0,U⟩),I J b] w fun e w'=>e=Y (I J (Sp.pl s.l b))∧Below w.heap.size w w':=by
 have c:Below w.heap.size w (w.alloc (K #[I J b] 3)):=(eY _ _).alloc (aM _) _;have m:=h.lt;obtain⟨i,a,d,n,o,q,v,x,j⟩:=h.cells;have r:=DJ s.l b i a s.l.length w.heap.size (w.alloc (K #[I J b] 3)) (j.zf.stay c) j.cap_ rfl (by omega) (World.cell?_alloc_mark w _ _ _ 0);have y:(w.alloc (K #[I J b] 3)).cell? ⟨g,0,U⟩=M (Z i s.l.length a):=by rw[c.cell (p:=⟨g,0,U⟩) m];exact d
 have z:∀(k:Fn) (first a:Array Value) (w:X),(Instr.makeFunc k first a).run prog w=.ok (.func k first a) w:=fun _ _ _ _=>rfl;generalize s.l=l at *;go_enter func69,ntmps69;go_wp2_with fail
 refine r.mono ?_;rintro e B ⟨rfl,t⟩;have f:=then_ c t;go_wp2;go_ret;exact⟨rfl,f⟩
theorem RU (s:Sp.St)(S:Nat->Prop)(g:Nat)(w:X)(h:gL w S g s)(D:s.l.length<=1000)(G:Sp.used s.l<=1000000):
 Calls prog 257 #[Q (M ⟨g,0,U⟩)] w fun e w'=>e=Y (I J (Sp.used s.l))∧Below w.heap.size w w':=by
 obtain⟨L,r,c,d,u,x,N,T,i⟩:=h.cells;have H:=i.zf;have j:=i.cap_;generalize s.l=l at *;go_enter func257,ntmps257;go_wp2;go_loopw [3,11] (fun v t wr=>∃k:Nat,k<=l.length∧t=I J k∧v=I J (Sp.used (l.take k):Int)∧Below w.heap.size w wr) (fun _ t _=>l.length-(intOf t).toNat)
 case atStart=>exact⟨0,aA _,rfl,rfl,eY _ _⟩
 case round =>
  obtain⟨k,W,rfl,rfl,b⟩:=hrel;have hu:=Sp.PL l k;by_cases a:k<l.length
  . obtain⟨bb,oo,s,rfl,c,d,y,z,B,_⟩:=(H.stay b).at_ k a;have m:(k:Int)<l.length:=by omega
    have C:Sp.used (l.take (k+1))=Sp.used (l.take k)+l[k].bytes.length:=Sp.FN l k a;have n:=Sp.UY l k a;have f:∀o,Below w.heap.size w (wr.alloc o):=fun o=>b.alloc b.size _;generalize l[k]=p at *;generalize Sp.used (l.take k)=q at *;go_wp2;go_roundw
    case rel =>
     exact⟨k+1,by omega,by go_num,by rw[C];go_num,f _⟩
    case measure=>simp[intOf];omega
  . obtain rfl:k=l.length:=by omega
    go_wp2;go_ret;exact⟨by rw[bN];rfl,b⟩
theorem kX (w:X)(n:Nat):Below w.heap.size w (w.drewN n):=⟨rfl,rfl,rfl,aM _,fun _ _=>rfl⟩
structure Did (S:Nat->Prop)(tO:Nat)(w:X)(g:Nat)(r:Sp.St×Nat)(e:Ending)(w':X):Prop where
 ret:e=Y (I J (r.2:Int))
 at_:ny w' (gB S w) tO 92 5 g r.1
 turns:Turns S w w'
def kL (w:X)(g gu n:Nat):Prop:=∃cap,n<=cap∧w.cell? ⟨g,0,U⟩=M (Z (M ⟨gu,0,U⟩) n cap)
section
variable {w w':X} {S:Nat->Prop} {tO g gu i:Nat} {s:Sp.St}
theorem Did.none_ {c:Nat}(h:ny w S tO 92 5 g s)(a:Below w.heap.size w w'){r:Sp.St×Nat}(b:r=(s,c)):Did S tO w g r (Y (I J (c:Int))) w':=by
 subst b;exact⟨rfl,(h.stay a).mono (fun k _ e=>A e),Turns.of_below a⟩
theorem Did.put {j:Nat}{v:Value}{u:Sp.Up}(h:ny w S tO 92 5 g s)(x:kL w g gu s.l.length)(n:i<s.l.length)(y:j<5)(z:∀q,(uK s.l[i] q).set j v=uK u q)(B:u.bytes=s.l[i].bytes){r:Sp.St×Nat}(C:r=(⟨s.l.set i u,s.last⟩,0)):Did S tO w g r (Y (I J 0)) (w.setCell ⟨gu,i*5+j,U⟩ v):=by
 subst C;obtain⟨L,d,D,N,T,W,G,H,o⟩:=h.cells;obtain⟨p,V9,c⟩:=x;rw[D] at c;injection c with c;injection c with ha _ _;subst ha;obtain⟨f,t⟩:=o.put n y z B;obtain⟨g2,a,b,_,_⟩:=o.at_.row i n;injection a with a;injection a with a;subst a;have m:Turns S w (w.setCell ⟨gu,i*5+j,U⟩ v):=t.mono (fun k e=>by subst e;exact b.1);refine⟨rfl,⟨M ⟨gu,0,U⟩,d,?_,A H,?_⟩,m⟩
 . have:=t.row G (fun e=>b.2 e.symm);simpa using this
 . exact f.mono (fun k _ e=>⟨A e.1,e.2⟩)
theorem Did.from_ {a:X}{r:Sp.St×Nat}{e:Ending}(b:Below w.heap.size w a)(h:Did S tO a g r e w'):Did S tO w g r e w':=by
 have c:=b.size;refine⟨h.ret,h.at_.mono (fun k _ e=>?_),(Turns.of_below b).trans h.turns (fun _ e _=>e)⟩;rcases e with e | e
 . exact A e
 . exact Or.inr (by omega)
theorem kL.stay {n:Nat}(h:kL w g gu n)(c:Below w.heap.size w w'):kL w' g gu n:=by
 obtain⟨a,d,b⟩:=h;exact⟨a,d,by rw[c.cell (fH w _ b)];exact b⟩
theorem kL.of (h:ny w S tO 92 5 g s)(c:i<s.l.length):∃gu,kL w g gu s.l.length:=by
 obtain⟨f,a,d,j,k,m,n,o,b⟩:=h.cells;obtain⟨e,rfl,_⟩:=b.at_.row i c;exact⟨e,a,b.cap_,d⟩
theorem kL.up (h:ny w S tO 92 5 g s)(d:kL w g gu s.l.length)(e:i<s.l.length):∃q:wU,w.cell? ⟨gu,i*5,U⟩=M (I J s.l[i].id)∧w.cell? ⟨gu,i*5+1,U⟩=M (I J s.l[i].size)∧w.cell? ⟨gu,i*5+2,U⟩=M (V s.l[i].note)∧w.cell? ⟨gu,i*5+3,U⟩=M (Z q.bo s.l[i].bytes.length q.fU)∧w.cell? ⟨gu,i*5+4,U⟩=M (I J s.l[i].sent)∧(∀j,w.frozen? ⟨gu,j,U⟩=F)∧gN w q.bo q.fU s.l[i].bytes:=by
 obtain⟨x,f,k,y,z,B,C,D,m⟩:=h.cells;obtain⟨c,G,b⟩:=d;rw[k] at b;injection b with b;injection b with ha _ _;subst ha;obtain⟨H,q,a,_,_,n,o,p,r,t,u,v,_⟩:=m.lies i e;injection a with a;injection a with a;subst a;exact⟨q,n,o,p,r,t,u,v.tQ⟩
end
theorem Np (s:Sp.St)(S:Nat->Prop)(g c i:Nat)(w:X)(h:gL w S g s)(a:kL w g c s.l.length)(f:i<s.l.length):
 Calls prog 209 #[Q (M ⟨c,i*5,U⟩)] w (Did S 124 w g (Sp.MI s i s.l[i])):=by
 obtain⟨q,j,k,m,n,r,d,p⟩:=kL.up h a f;have t:=d (i*5+4);by_cases b:s.l[i].sent=1
 . have e:Hid (∀W,W=w.setCell ⟨c,i*5+4,U⟩ (I J 2)->Did S 124 w g (Sp.MI s i s.l[i]) (Y (I J 0)) W):=fun W v=>by
    rw[v];exact Did.put (u:={ s.l[i] with sent:=2 }) h a f (by decide) (fun q=>rfl) rfl (by unfold Sp.MI;rw[if_neg (by simpa using b)])
   rw[b] at r;clear h a d j k m n p;generalize s.l[i]=u at *;clear b;go_enter func209,ntmps209;go_wp2;go_ret;exact e.o _ rfl
 . have e:Hid (Did S 124 w g (Sp.MI s i s.l[i]) (Y (I J (19:Nat))) w):=Did.none_ h (eY _ _) (by unfold Sp.MI;rw[if_pos (by simpa using b)]);clear h a d j k m n p;generalize s.l[i]=u at *;go_enter func209,ntmps209;go_wp2;go_ret;exact e.o
abbrev Wm:=X->(Nat->Prop)->Nat->Sr.Sh->Prop
structure zm (O:Wm):Prop where
 turns:∀{w w':X} {S S':Nat->Prop} {g:Nat} {s:Sr.Sh},O w S g s->Turns S' w w'->(∀k,S k->¬S' k)->O w' S g s
 mono:∀{w:X} {S S':Nat->Prop} {g:Nat} {s:Sr.Sh},O w S g s->(∀k,k<w.heap.size->S k->S' k)->O w S' g s
structure zo (O:Wm)(S:Nat->Prop)(w:X)(g:Nat)(r:Sr.Sh×Tu.yA)(e:Ending)(w':X):Prop where
 ret:∃(ao:ak) (cap n:Nat),e=Y (.agg #[I J (r.2.1:Int),Z ao n cap,Z U 0 0])∧r.2.2.length=n∧gH w' w.heap.size 131 2 ao cap n (gG r.2.2)
 at_:O w' (gB S w) g r.1
 turns:Turns S w w'
structure iM (O:Wm)(S:Nat->Prop)(w:X)(g:Nat)(bs:List Obj)(s:Sr.Sh)(S':Nat->Prop)(W:X):Prop where
 bx:∀i,i<bs.length->W.heap[w.heap.size+i]? = bs[i]?
 sh:O W S' g s
 ap:∀k,S' k->(S k∧k<w.heap.size)∨w.heap.size+bs.length<=k
 tu:Turns (fun k=>S k∧k<w.heap.size) w W
 sz:w.heap.size+bs.length<=W.heap.size
section
variable {O:Wm} {S S' S'':Nat->Prop} {w W W':X} {g:Nat} {bs:List Obj} {s s':Sr.Sh}
theorem iM.start (L:zm O)(h:O w S g s):iM O S w g [] s (fun k=>S k∧k<w.heap.size) w :=
 ⟨fun i a=>by simp at a,L.mono h (fun k b e=>⟨e,b⟩),fun k e=>A e,Turns.refl _ _,by simp⟩
theorem iM.stay (L:zm O)(h:iM O S w g bs s S' W)(a:Below W.heap.size W W'):iM O S w g bs s S' W':=by
 have b:=h.sz;refine⟨fun i c=>(a.block _ (by omega)).trans (h.bx i c),L.turns h.sh (Turns.of_below (S:=fun _=>False) a) (fun _ _ e=>e),h.ap,h.tu.trans (Turns.of_below (S:=fun _=>False) a) (fun _ e _=>e.elim),dB b a.size⟩
theorem iM.box (L:zm O)(h:iM O S w g bs s S' W)(d:W.heap.size=w.heap.size+bs.length)(f:∀k,S' k->k<W.heap.size)(o:Obj):iM O S w g (bs++[o]) s S' (W.alloc o):=by
 have j:=(eY _ W).alloc (aM _) o;have a:=h.stay L j;refine⟨fun i l=>?_,a.sh,fun k e=>?_,a.tu,by rw[fG];simp;omega⟩
 . rcases aT i bs.length with b | b
   . rw[aX b];exact a.bx i b
   . have:i=bs.length:=by simp at l;omega
     subst this;rw[bg (aM _),Nat.sub_self,<-d];exact eX W o
 . rcases h.ap k e with c | c
   . exact A c
   . have:=f k e;omega
theorem iM.did (h:iM O S w g bs s S' W)(c:O W' (gB S' W) g s')(b:Turns S' W W'):iM O S w g bs s' (gB S' W) W':=by
 have d:=h.sz;refine⟨fun i f=>?_,c,fun k e=>?_,h.tu.trans b (fun k e j=>?_),dB d b.size⟩
 . refine(b.block _ (by omega) (fun e=>?_)).trans (h.bx i f);rcases h.ap _ e with a | a
   . omega
   . omega
 . rcases e with e | e
   . exact h.ap k e
   . exact Or.inr (by omega)
 . rcases h.ap k e with a | a
   . exact a
   . omega
theorem iM.turned (h:iM O S w g bs s S' W)(c:O W' S' g s')(b:Turns S' W W'):iM O S w g bs s' S' W':=by
 have d:=h.sz;refine⟨fun i f=>?_,c,h.ap,h.tu.trans b (fun k e j=>?_),dB d b.size⟩
 . refine(b.block _ (by omega) (fun e=>?_)).trans (h.bx i f);rcases h.ap _ e with a | a
   . omega
   . omega
 . rcases h.ap k e with a | a
   . exact a
   . omega
theorem iM.row (h:iM O S w g bs s S' W)(i:Nat){o:Obj}(a:bs[i]? = M o):W.heap[w.heap.size+i]? = M o:=(h.bx i (aQ.1 a).1).trans a
theorem iM.ends (L:zm O)(h:iM O S w g bs s S' W){i:Nat}(q:bs[i]? = M (K #[I J 0,Z U 0 0,Z U 0 0] 109 (0,0))){b:Nat}(x:w.heap.size+i=b){st:Nat}{mg:Int}(j:(st:Int)=mg){l:au}{ao:ak}{cap n:Nat}(y:l.length=n){c:Nat}(m:w.heap.size<=c)(t:gH W' c 131 2 ao cap n (gG l))(z:Below W.heap.size W W'):
 (W'.cell? ⟨b,0,U⟩=M (I J 0)∧W'.cell? ⟨b,1,U⟩=M (Z U 0 0)∧W'.cell? ⟨b,2,U⟩=M (Z U 0 0)∧W'.frozen? ⟨b,0,U⟩=F∧W'.frozen? ⟨b,1,U⟩=F∧W'.frozen? ⟨b,2,U⟩=F) ∧
 Hid ((((W'.setCell ⟨b,0,U⟩ (I J mg)).setCell ⟨b,1,U⟩ (Z ao n cap)).setCell ⟨b,2,U⟩ (Z U 0 0)).cell? ⟨b,0,U⟩=M (I J mg)∧(((W'.setCell ⟨b,0,U⟩ (I J mg)).setCell ⟨b,1,U⟩ (Z ao n cap)).setCell ⟨b,2,U⟩ (Z U 0 0)).cell? ⟨b,1,U⟩=M (Z ao n cap)∧(((W'.setCell ⟨b,0,U⟩ (I J mg)).setCell ⟨b,1,U⟩ (Z ao n cap)).setCell ⟨b,2,U⟩ (Z U 0 0)).cell? ⟨b,2,U⟩=M (Z U 0 0)∧zo O S w g (s,(st,l)) (Y (.agg #[I J mg,Z ao n cap,Z U 0 0])) (((W'.setCell ⟨b,0,U⟩ (I J mg)).setCell ⟨b,1,U⟩ (Z ao n cap)).setCell ⟨b,2,U⟩ (Z U 0 0))):=by
 subst x;subst j;have o:=h.stay L z;have B:=(aQ.1 q).1;have G:=h.sz;have r:=o.row i q;refine⟨⟨eZ W' _ 0 _ _ _ r,eZ W' _ 1 _ _ _ r,eZ W' _ 2 _ _ _ r,fq W' _ 0 _ _ r,fq W' _ 1 _ _ r,fq W' _ 2 _ _ r⟩,?_⟩;have C:=fu W' (w.heap.size+i) 0 _ _ (I J (st:Int)) r;have D:=fu _ (w.heap.size+i) 1 _ _ (Z ao n cap) C;have p:=fu _ (w.heap.size+i) 2 _ _ (Z U 0 0) D;have d:=gY (w.heap.size+i) [I J (st:Int),Z ao n cap,Z U 0 0] 0 W';replace d:Turns (fun k=>k=w.heap.size+i) W' (((W'.setCell ⟨w.heap.size+i,0,U⟩ (I J (st:Int))).setCell ⟨w.heap.size+i,1,U⟩ (Z ao n cap)).setCell ⟨w.heap.size+i,2,U⟩ (Z U 0 0)):=d;refine⟨eZ _ _ 0 _ _ _ p,eZ _ _ 1 _ _ _ p,eZ _ _ 2 _ _ _ p,⟨⟨ao,cap,n,rfl,y,?_⟩,?_,?_⟩⟩
 . have u:=kP r t (by decide);rw[gD] at u;exact(t.turns d (fun a e v=>u (by rw[e];show M a.block=_;rw[v]))).mono m
 . refine L.mono (L.turns o.sh d (fun k e v=>?_)) (fun k _ e=>?_)
   . rcases h.ap k e with f | f
     . omega
     . omega
   . rcases h.ap k e with f | f
     . exact A f.1
     . exact Or.inr (by omega)
 . exact(o.tu.trans d (fun k e H=>by omega)).mono (fun k e=>e.1)
theorem iM.aside (L:zm O)(h:iM O S w g bs s S' W){b:Nat}(a:Turns (fun k=>k=b) W W')(l:w.heap.size+bs.length<=b)(c:¬S' b):iM O S w g bs s S' W':=by
 have d:=h.sz;refine⟨fun i f=>(a.block _ (by omega) (by omega)).trans (h.bx i f),L.turns h.sh a (fun k e j=>c (by rw[<-j];exact e)),h.ap,h.tu.trans a (fun k e m=>by omega),dB d a.size⟩
end
theorem jV (n v:ay)(w:X):Calls prog 121 #[V n,V v] w fun e w'=>e=Y (.agg #[V n,V v])∧Below w.heap.size w w':=by
 have a:(w.alloc (K #[V n,V v] 131)).cell? ⟨w.heap.size,0,U⟩=M (V n):=World.cell?_alloc_mark w _ _ _ 0;have b:(w.alloc (K #[V n,V v] 131)).cell? ⟨w.heap.size,1,U⟩=M (V v):=World.cell?_alloc_mark w _ _ _ 1;go_enter func121,ntmps121;go_wp2;exact fI (v:=.agg #[V n,V v]) (by simp[results,results121,go_sem,a,b]) rfl ⟨rfl,(eY _ w).alloc (aM _) _⟩
def iG (st:Int)(ao:ak)(n cap:Nat):Ending:=.panicked [{ v:=.iface 194 (.agg #[I J st,Z ao n cap,Z U 0 0]),recovered:=F }]
def pY (w:X)(r:Tu.yA)(e:Ending)(w':X):Prop:=∃(ao:ak) (cap n:Nat),e=iG (r.1:Int) ao n cap∧r.2.length=n∧gH w' w.heap.size 131 2 ao cap n (gG r.2)∧Below w.heap.size w w'
def KJ (w:X)(r:Tu.yA)(e:Ending)(w':X):Prop:=∃(ao:ak) (cap n:Nat),e=Y (.agg #[I J (r.1:Int),Z ao n cap,Z U 0 0])∧r.2.length=n∧gH w' w.heap.size 131 2 ao cap n (gG r.2)∧Below w.heap.size w w'
theorem pY.from_ {w b w':X}{r:Tu.yA}{e:Ending}(c:Below w.heap.size w b)(h:pY b r e w'):pY w r e w':=by
 obtain⟨d,a,n,f,g,i,j⟩:=h;exact⟨d,a,n,f,g,i.mono c.size,then_ c j⟩
theorem Bl (st:Nat)(mg:Int)(u:(st:Int)=mg)(l:au)(H:ak)(L n:Nat)(w:X)(hl:ji w H L n (gG l))(hn:l.length=n)(hN:n<=1000):
 Calls prog 127 #[I J mg,Z H n L] w fun e w'=>KJ w (Tu.said st l) e w':=by
 obtain⟨i0,x,y,z,B⟩:=info_parts pq;have Hi:=x;have kY:=H9 y;have kT:=H9 z;have kZ:=H9 B
 have HL:=hl;have N:=H9 hn;have C:=H9 u
 have jc:=(eY _ w).alloc (aM _) (K #[I J 0,Z U 0 0,Z U 0 0] 109);go_enter func127,ntmps127;go_wp2_with fail
 refine(jV Tu.AO Tu.jG (w.alloc (K #[I J 0,Z U 0 0,Z U 0 0] 109))).mono ?_;rintro e p ⟨rfl,r⟩;have s:=(r.block w.heap.size (by simp)).trans (eX w _);have D:=(aL.1 s).1;have m:=then_ (then_ jc r) ((eY _ p).alloc (aM _) (K #[V Tu.AO,V Tu.jG] 131));have hO:gH (p.alloc (K #[V Tu.AO,V Tu.jG] 131)) w.heap.size 131 2 (M ⟨p.heap.size,0,U⟩) 1 1 [V Tu.AO,V Tu.jG]:=fM p #[V Tu.AO,V Tu.jG] 1 (by omega) (by decide) rfl;have t:=(((eY _ p).alloc (aM _) (K #[V Tu.AO,V Tu.jG] 131)).block w.heap.size D).trans s;have S:=H9 (HL.stay m);have T:=H9 hO;have W:Hid (∀(d:ak) (f:Nat) (b:X),gH b w.heap.size 131 2 d f (1+n) ([V Tu.AO,V Tu.jG]++gG l)->(p.alloc (K #[V Tu.AO,V Tu.jG] 131)).grownBy b (M p.heap.size)->(b.cell? ⟨w.heap.size,0,U⟩=M (I J 0)∧b.cell? ⟨w.heap.size,1,U⟩=M (Z U 0 0)∧b.cell? ⟨w.heap.size,2,U⟩=M (Z U 0 0)∧b.frozen? ⟨w.heap.size,0,U⟩=F∧b.frozen? ⟨w.heap.size,1,U⟩=F∧b.frozen? ⟨w.heap.size,2,U⟩=F) ∧
  Hid ((((b.setCell ⟨w.heap.size,0,U⟩ (I J mg)).setCell ⟨w.heap.size,1,U⟩ (Z d (1+n) f)).setCell ⟨w.heap.size,2,U⟩ (Z U 0 0)).heap[w.heap.size]? = M (K #[I J mg,Z d (1+n) f,Z U 0 0] 109 (0,0))∧KJ w (Tu.said st l) (Y (.agg #[I J mg,Z d (1+n) f,Z U 0 0])) (((b.setCell ⟨w.heap.size,0,U⟩ (I J mg)).setCell ⟨w.heap.size,1,U⟩ (Z d (1+n) f)).setCell ⟨w.heap.size,2,U⟩ (Z U 0 0)))):=fun d f b g i=>by
  have c:=(i.block _ (aL.1 t).1 (fun e=>by injection e with e;omega)).trans t;refine⟨⟨eZ b _ 0 _ _ _ c,eZ b _ 1 _ _ _ c,eZ b _ 2 _ _ _ c,fq b _ 0 _ _ c,fq b _ 1 _ _ c,fq b _ 2 _ _ c⟩,?_⟩;have r0:=fu b w.heap.size 0 _ _ (I J mg) c;have r1:=fu _ w.heap.size 1 _ _ (Z d (1+n) f) r0;have r2:=fu _ w.heap.size 2 _ _ (Z U 0 0) r1;refine⟨r2,d,f,1+n,by rw[<-C.o];rfl,?_,?_,?_⟩
  . show(_::l).length=1+n;have:=N.o;simp only[aW];omega
  . have nz:=kP c g (by decide);rw[gD] at nz;exact g.turns (gY w.heap.size [I J mg,Z d (1+n) f,Z U 0 0] 0 b) (fun a e e2=>nz (by rw[e];show M a.block=_;rw[e2]))
  . have h3:Below w.heap.size w b:=m.grown i m.size (fun q e=>by injection e with e;omega);exact h3.trans ((gY w.heap.size [I J mg,Z d (1+n) f,Z U 0 0] 0 b).below (fun k e=>by omega) h3.size)
 have HZ:Hid (w.heap.size<=(p.alloc (K #[V Tu.AO,V Tu.jG] 131)).heap.size):=m.size;have Wn:(gG l).length=n*2:=by rw[mF,N.o]
 unfold Tu.AO Tu.jG at T S W HZ;go_wp2_with (at_builtin;refine gP rfl (.tmp 7) (.tmp 8) 80 rfl w.heap.size 131 i0 (.agg #[V ⟨#[]⟩,V ⟨#[]⟩]) 2 32 underlying80 Hi kY.o kT.o kZ.o rfl (by decide) rfl T.o rfl S.o Wn (F3 l) (by omega) (by omega) HZ.o ?_;intro d f b g i _;obtain⟨⟨x0,x1,x2,y0,y1,y2⟩,HX⟩:=W.o d f b g i;clear g i)
 generalize (((b.setCell ⟨w.heap.size,0,U⟩ (I J mg)).setCell ⟨w.heap.size,1,U⟩ (Z d (1+n) f)).setCell ⟨w.heap.size,2,U⟩ (Z U 0 0))=G at *;obtain⟨j,hD⟩:=HX.o;have q0:=eZ G _ 0 _ _ _ j;have q1:=eZ G _ 1 _ _ _ j;have q2:=eZ G _ 2 _ _ _ j;exact fI (v:=.agg #[I J mg,Z d (1+n) f,Z U 0 0]) (by simp[results,results127,go_sem,q0,q1,q2]) rfl hD
theorem jO (st:Nat)(mg:Int)(a:(st:Int)=mg)(l:au)(b:ak)(c n:Nat)(w:X)(d:ji w b c n (gG l))(f:l.length=n)(g:n<=1000):
 Calls prog 127 #[I J mg,Z b n c] w fun e w'=>∃(ao:ak) (cap k:Nat),e=Y (.agg #[I J mg,Z ao k cap,Z U 0 0])∧((Tu.AO,Tu.jG)::l).length=k∧gH w' w.heap.size 131 2 ao cap k (gG ((Tu.AO,Tu.jG)::l))∧Below w.heap.size w w':=by
 subst a;exact Bl st _ rfl l b c n w d f g
theorem iF (mg:Int)(a:ak)(n b:Nat)(w:X):Calls prog 120 #[.bool true,I J mg,Z a n b] w fun e w'=>e=Y (.tuple #[])∧w'=w:=by
 go_enter func120,ntmps120;go_wp2;go_end0
 exact⟨rfl,rfl⟩
theorem zq (st:Nat)(mg:Int)(b:(st:Int)=mg)(l:au)(c:ak)(d n:Nat)(w:X)(g:ji w c d n (gG l))(i:l.length=n)(j:n<=1000):
 Calls prog 120 #[.bool F,I J mg,Z c n d] w fun e w'=>pY w (Tu.said st l) e w':=by
 go_enter func120,ntmps120;go_wp2_with fail
 refine(Bl st mg b l c d n w g i j).mono ?_;rintro e k ⟨f,a,m,rfl,o,p,q⟩;have r:pY w (Tu.said st l) (iG ((Tu.said st l).1:Int) f m a) k:=⟨f,a,m,rfl,o,p,q⟩;go_wp2;exact⟨rfl,r⟩
theorem iJ (st:Nat)(mg:Int)(a:(st:Int)=mg)(w:X):Calls prog 120 #[.bool F,I J mg,Z U 0 0] w fun e w'=>pY w (Tu.said st []) e w' :=
 zq st mg a [] U 0 0 w (ji.nil w) rfl (by decide)
theorem RY (i z t:Int)(m:ay)(bo:ak)(n fU:Nat)(w:X):
 Calls prog 205 #[.agg #[I J i,I J z,V m,Z bo n fU,I J t]] w fun e w'=>e=Y (.bool (decide (z=n)))∧w'=w.alloc (K #[I J i,I J z,V m,Z bo n fU,I J t] 92):=by
 go_enter func205,ntmps205;go_wp2;go_ret;exact⟨rfl,rfl⟩
theorem Wq (b o:Nat)(z:Int)(w:X)(d:w.cell? ⟨b,o+1,U⟩=M (I J z)):
 Calls prog 256 #[Q (M ⟨b,o,U⟩)] w fun e w'=>e=Y (I J (if z=-1 then 2000 else z))∧w'=w:=by
 by_cases a:z=-1
 . subst a;go_enter func256,ntmps256;go_wp2;go_ret;exact⟨rfl,rfl⟩
 . have c:=H9 a;go_enter func256,ntmps256;go_wp2;go_ret;exact⟨by first | rfl | (rw[if_neg c.o];rfl),rfl⟩
theorem Nu (s:Sp.St)(S:Nat->Prop)(g k i:Nat)(w:X)(h:gL w S g s)(d:kL w g k s.l.length)(p:i<s.l.length):
 Calls prog 204 #[Q (M ⟨k,i*5,U⟩)] w (Did S 124 w g (Sp.Ht s i s.l[i])):=by
 obtain⟨q,C,D,G,H,z,r,t⟩:=kL.up h d p;by_cases c:s.l[i].sent=0
 . have f:=H9 (RY s.l[i].id s.l[i].size s.l[i].sent s.l[i].note q.bo s.l[i].bytes.length q.fU w);have b:∀a,Below w.heap.size w (w.alloc a):=fun a=>(eY _ _).alloc (aM _) _;by_cases j:s.l[i].size=s.l[i].bytes.length
   . have m:Hid (∀W a,W=w.alloc a->W.frozen? ⟨k,i*5+4,U⟩=F∧W.cell? ⟨k,i*5+4,U⟩=M (I J s.l[i].sent)∧Did S 124 w g (Sp.Ht s i s.l[i]) (Y (I J 0)) (W.setCell ⟨k,i*5+4,U⟩ (I J 1))):=fun W a v=>by
      subst v;obtain⟨q2,_,_,_,_,L,N,_⟩:=kL.up (h.stay (b a)) (d.stay (b a)) p;exact⟨N _,L,Did.from_ (b a) (Did.put (u:={ s.l[i] with sent:=1 }) (h.stay (b a)) (d.stay (b a)) p (by decide) (fun q=>rfl) rfl (by unfold Sp.Ht;rw[if_neg (by simpa using c),if_neg (by simpa using j)]))⟩
     rw[aI j] at f;rw[c] at f z;clear h d r t j b c;generalize s.l[i]=u at *;go_enter func204,ntmps204;go_wp2_with fail
     refine f.o.mono ?_;rintro e T ⟨rfl,n⟩;obtain⟨r1,r2,B⟩:=m.o _ _ n;have x:=H9 B;clear B n;go_wp2;go_ret;exact x.o
   . have m:Hid (∀W a,W=w.alloc a->Did S 124 w g (Sp.Ht s i s.l[i]) (Y (I J (14:Nat))) W):=fun W a v=>by
      subst v;exact Did.none_ h (b a) (by unfold Sp.Ht;rw[if_neg (by simpa using c),if_pos (by simpa using j)])
     rw[aJ j] at f;rw[c] at f z;clear h d r t j b c;generalize s.l[i]=u at *;go_enter func204,ntmps204;go_wp2_with fail
     refine f.o.mono ?_;rintro e T ⟨rfl,n⟩;have y:=H9 n;clear n;go_wp2;go_ret;exact m.o _ _ y.o
 . have m:Hid (Did S 124 w g (Sp.Ht s i s.l[i]) (Y (I J (19:Nat))) w):=Did.none_ h (eY _ _) (by unfold Sp.Ht;rw[if_pos (by simpa using c)]);clear h d r C D G H t;generalize s.l[i]=u at *;go_enter func204,ntmps204;go_wp2;go_ret;exact m.o
theorem Nv (s:Sp.St)(S:Nat->Prop)(g j i o:Nat)(a:Int)(w:X)(h:gL w S g s)(p:kL w g j s.l.length)(t:i<s.l.length)(v:-1<=s.l[i].size)(C:w.cell? ⟨o,0,U⟩=M (I J a)):
 Calls prog 258 #[Q (M ⟨j,i*5,U⟩),Q (M ⟨o,0,U⟩)] w (Did S 124 w g (Sp.iV s a i s.l[i])):=by
 obtain⟨q,D,G,H,L,N,x,T⟩:=kL.up h p t;by_cases W:s.l[i].size=-1
 . have k:¬0<=s.l[i].size:=by omega
   by_cases b:a<0
   . have d:Did S 124 w g (Sp.iV s a i s.l[i]) (Y (I J (1:Nat))) w:=Did.none_ h (eY _ _) (by unfold Sp.iV;rw[if_neg k,if_pos b]);generalize s.l[i]=u at *;go_enter func258,ntmps258;go_wp2;go_ret;exact d
   . have tn:decide (a<0)=F:=by rw[bO];exact b
     by_cases e:2000<a
     . have d:∀n,Did S 124 w g (Sp.iV s a i s.l[i]) (Y (I J (4:Nat))) (w.drewN n):=fun n=>Did.none_ (c:=4) (r:=Sp.iV s a i s.l[i]) h (kX w n) (by unfold Sp.iV;rw[if_neg k,if_neg b,if_pos (A e)]);have y:decide (a > 2000)=true:=by rw[bP];exact e
       generalize s.l[i]=u at *;go_enter func258,ntmps258;go_wp2;go_quiet (fail)
       go_wp2;go_ret;exact d _
     . have y:decide (a > 2000)=F:=by rw[bO];omega
       by_cases f:a<s.l[i].bytes.length
       . have d:∀n,Did S 124 w g (Sp.iV s a i s.l[i]) (Y (I J (4:Nat))) (w.drewN n):=fun n=>Did.none_ (c:=4) (r:=Sp.iV s a i s.l[i]) h (kX w n) (by unfold Sp.iV;rw[if_neg k,if_neg b,if_pos (Or.inr f)]);have z:decide (a<(s.l[i].bytes.length:Int))=true:=by rw[bP];exact f
         generalize s.l[i]=u at *;go_enter func258,ntmps258;go_wp2;go_quiet (fail)
         go_wp2;go_ret;exact d _
       . have m:=kX w;have d:∀n,Did S 124 w g (Sp.iV s a i s.l[i]) (Y (I J 0)) ((w.drewN n).setCell ⟨j,i*5+1,U⟩ (I J a)):=fun n =>
          Did.from_ (m n) (Did.put (u:={ s.l[i] with size:=a }) (h.stay (m n)) (p.stay (m n)) t (by decide) (fun q=>rfl) rfl (by unfold Sp.iV;rw[if_neg k,if_neg b,if_neg (by omega)]))
         have z:decide (a<(s.l[i].bytes.length:Int))=F:=by rw[bO];omega
         have B:w.frozen? ⟨j,i*5+1,U⟩=F:=x _;generalize s.l[i]=u at *;go_enter func258,ntmps258;go_wp2;go_quiet (fail)
         go_wp2;go_ret;exact d _
 . have d:Did S 124 w g (Sp.iV s a i s.l[i]) (Y (I J (18:Nat))) w:=Did.none_ h (eY _ _) (by unfold Sp.iV;rw[if_pos (by omega)]);generalize s.l[i]=u at *;go_enter func258,ntmps258;go_wp2;go_ret;exact d
theorem Oh (s:Sp.St)(S:Nat->Prop)(g:Nat)(f:Int)(w:X)(h:gL w S g s)(hN:s.l.length<=1000)(b:Nat->Sp.Up->Sp.St×Nat)
 (G:∀d i x (y:i<s.l.length),Below w.heap.size w d->gL d S g s->kL d g x s.l.length->Calls prog 209 #[Q (M ⟨x,i*5,U⟩)] d (Did S 124 d g (b i s.l[i]))) :
 Calls prog 203 #[Q (M ⟨g,0,U⟩),I J f,.func (.func 209) #[] #[]] w (Did S 124 w g (Sp.kH s f b)):=by
 have p:=H9 (oD s S g f w h hN);have z:=H9 h;have H:=H9 G;clear h G;cases j:Sp.place s.l f with
 | none =>
   rw[Sp.tJ j] at p;have HR:Hid (∀W,Below w.heap.size w W->Did S 124 w g (Sp.kH s f b) (Y (I J (10:Nat))) W):=fun W a=>Did.none_ z.o a (Sp.oh j);clear j;go_enter func203,ntmps203;go_wp2_with fail
   refine p.o.mono ?_;rintro e d ⟨rfl,a⟩;have L:=H9 a;clear a;go_wp2;go_ret;exact HR.o _ L.o
 | some i =>
   rw[Sp.tK j] at p;have y:=Sp.lg j;have q:Sp.kH s f b=b i (s.l[i]'y):=Sp.om j;clear j;have B:=H9 q;clear q;go_enter func203,ntmps203;go_wp2_with fail
   refine p.o.mono ?_;rintro e d ⟨rfl,a⟩;have C:=z.o.stay a;obtain⟨x,t⟩:=kL.of C y;have HC:=H9 (H.o d i x y a C t);have L:=H9 a;obtain⟨cap,N,hc⟩:=t;have hi':(i:Int)<s.l.length:=by omega
   have T:Hid (∀e u,Did S 124 d g (b i s.l[i]) e u->Did S 124 w g (Sp.kH s f b) e u∧∃c:Nat,e=Y (I J (c:Int))):=fun e u m=>by
    have hsz:=a.size;refine⟨⟨by rw[B.o];exact m.ret,?_,(Turns.of_below a).trans m.turns (fun _ e _=>e)⟩,_,m.ret⟩;rw[B.o];refine m.at_.mono (fun k _ e=>?_);rcases e with e | e
    . exact A e
    . exact Or.inr (by omega)
   clear a C B z H p;generalize b i s.l[i]=r at *;generalize Sp.kH s f b=r2 at *;generalize s.l.length=n at *;go_wp2_with fail
   refine HC.o.mono ?_;intro e u m;obtain⟨v,c,rfl⟩:=T.o e u m;have D:=H9 v;clear m v T;go_wp2;go_ret;exact D.o
theorem Oi (s:Sp.St)(S:Nat->Prop)(g:Nat)(f:Int)(w:X)(h:gL w S g s)(hN:s.l.length<=1000)(b:Nat->Sp.Up->Sp.St×Nat)
 (G:∀d i x (y:i<s.l.length),Below w.heap.size w d->gL d S g s->kL d g x s.l.length->Calls prog 204 #[Q (M ⟨x,i*5,U⟩)] d (Did S 124 d g (b i s.l[i]))) :
 Calls prog 203 #[Q (M ⟨g,0,U⟩),I J f,.func (.func 204) #[] #[]] w (Did S 124 w g (Sp.kH s f b)):=by
 have p:=H9 (oD s S g f w h hN);have z:=H9 h;have H:=H9 G;clear h G;cases j:Sp.place s.l f with
 | none =>
   rw[Sp.tJ j] at p;have HR:Hid (∀W,Below w.heap.size w W->Did S 124 w g (Sp.kH s f b) (Y (I J (10:Nat))) W):=fun W a=>Did.none_ z.o a (Sp.oh j);clear j;go_enter func203,ntmps203;go_wp2_with fail
   refine p.o.mono ?_;rintro e d ⟨rfl,a⟩;have L:=H9 a;clear a;go_wp2;go_ret;exact HR.o _ L.o
 | some i =>
   rw[Sp.tK j] at p;have y:=Sp.lg j;have q:Sp.kH s f b=b i (s.l[i]'y):=Sp.om j;clear j;have B:=H9 q;clear q;go_enter func203,ntmps203;go_wp2_with fail
   refine p.o.mono ?_;rintro e d ⟨rfl,a⟩;have C:=z.o.stay a;obtain⟨x,t⟩:=kL.of C y;have HC:=H9 (H.o d i x y a C t);have L:=H9 a;obtain⟨cap,N,hc⟩:=t;have hi':(i:Int)<s.l.length:=by omega
   have T:Hid (∀e u,Did S 124 d g (b i s.l[i]) e u->Did S 124 w g (Sp.kH s f b) e u∧∃c:Nat,e=Y (I J (c:Int))):=fun e u m=>by
    have hsz:=a.size;refine⟨⟨by rw[B.o];exact m.ret,?_,(Turns.of_below a).trans m.turns (fun _ e _=>e)⟩,_,m.ret⟩;rw[B.o];refine m.at_.mono (fun k _ e=>?_);rcases e with e | e
    . exact A e
    . exact Or.inr (by omega)
   clear a C B z H p;generalize b i s.l[i]=r at *;generalize Sp.kH s f b=r2 at *;generalize s.l.length=n at *;go_wp2_with fail
   refine HC.o.mono ?_;intro e u m;obtain⟨v,c,rfl⟩:=T.o e u m;have D:=H9 v;clear m v T;go_wp2;go_ret;exact D.o
theorem Oj (s:Sp.St)(S:Nat->Prop)(g:Nat)(f:Int)(w:X)(h:gL w S g s)(L:s.l.length<=1000)(C:Nat)(a:Nat->Sp.Up->Sp.St×Nat)
 (D:∀b i u (v:i<s.l.length),Below w.heap.size w b->gL b S g s->kL b g u s.l.length->Calls prog 258 #[Q (M ⟨u,i*5,U⟩),Q (M ⟨C,0,U⟩)] b (Did S 124 b g (a i s.l[i]))) :
 Calls prog 203 #[Q (M ⟨g,0,U⟩),I J f,.func (.func 258) #[] #[Q (M ⟨C,0,U⟩)]] w (Did S 124 w g (Sp.kH s f a)):=by
 have m:=oD s S g f w h L;have G:=H9 D;clear  D;cases p:Sp.place s.l f with
 | none =>
   rw[Sp.tJ p] at m;have N:∀W,Below w.heap.size w W->Did S 124 w g (Sp.kH s f a) (Y (I J (10:Nat))) W:=fun W d=>Did.none_ h d (Sp.oh p);go_enter func203,ntmps203;go_wp2_with fail
   refine m.mono ?_;rintro e b ⟨rfl,d⟩;go_wp2;go_ret;exact N _ d
 | some i =>
   rw[Sp.tK p] at m;have v:=Sp.lg p;have x:Sp.kH s f a=a i (s.l[i]'v):=Sp.om p;have y:=H9 x;go_enter func203,ntmps203;go_wp2_with fail
   refine m.mono ?_;rintro e b ⟨rfl,d⟩;have z:=h.stay d;obtain⟨u,q⟩:=kL.of z v;have T:=H9 (G.o b i u v d z q);have HB:=H9 d;obtain⟨cap,H,hc⟩:=q;have hi':(i:Int)<s.l.length:=by omega
   have HD:Hid (∀e t,Did S 124 b g (a i s.l[i]) e t->Did S 124 w g (Sp.kH s f a) e t∧∃c:Nat,e=Y (I J (c:Int))):=fun e t j=>by
    have hsz:=d.size;refine⟨⟨by rw[y.o];exact j.ret,?_,(Turns.of_below d).trans j.turns (fun _ e _=>e)⟩,_,j.ret⟩;rw[y.o];refine j.at_.mono (fun k _ e=>?_);rcases e with e | e
    . exact A e
    . exact Or.inr (by omega)
   clear  z y  G m;generalize a i s.l[i]=r at *;generalize Sp.kH s f a=r2 at *;generalize s.l.length=n at *;go_wp2_with fail
   refine T.o.mono ?_;intro e t j;obtain⟨B,c,rfl⟩:=HD.o e t j;go_wp2;go_ret;exact B
theorem Ol (s:Sp.St)(S:Nat->Prop)(g:Nat)(f:Int)(w:X)(h:gL w S g s)(T:s.l.length<=1000)(C D G:Nat)(a:Nat->Sp.Up->Sp.St×Nat)
 (H:∀b i u (v:i<s.l.length),Below w.heap.size w b->gL b S g s->kL b g u s.l.length->Calls prog 255 #[Q (M ⟨u,i*5,U⟩),Q (M ⟨C,0,U⟩),Q (M ⟨D,0,U⟩),Q (M ⟨G,0,U⟩)] b (Did S 124 b g (a i s.l[i]))) :
 Calls prog 203 #[Q (M ⟨g,0,U⟩),I J f,.func (.func 255) #[] #[Q (M ⟨C,0,U⟩),Q (M ⟨D,0,U⟩),Q (M ⟨G,0,U⟩)]] w (Did S 124 w g (Sp.kH s f a)):=by
 have m:=oD s S g f w h T;have L:=H9 H;clear  H;cases p:Sp.place s.l f with
 | none =>
   rw[Sp.tJ p] at m;have HR:∀W,Below w.heap.size w W->Did S 124 w g (Sp.kH s f a) (Y (I J (10:Nat))) W:=fun W d=>Did.none_ h d (Sp.oh p);go_enter func203,ntmps203;go_wp2_with fail
   refine m.mono ?_;rintro e b ⟨rfl,d⟩;go_wp2;go_ret;exact HR _ d
 | some i =>
   rw[Sp.tK p] at m;have v:=Sp.lg p;have x:Sp.kH s f a=a i (s.l[i]'v):=Sp.om p;have y:=H9 x;go_enter func203,ntmps203;go_wp2_with fail
   refine m.mono ?_;rintro e b ⟨rfl,d⟩;have z:=h.stay d;obtain⟨u,q⟩:=kL.of z v;have HC:=H9 (L.o b i u v d z q);have HB:=H9 d;obtain⟨cap,N,hc⟩:=q;have hi':(i:Int)<s.l.length:=by omega
   have HD:Hid (∀e t,Did S 124 b g (a i s.l[i]) e t->Did S 124 w g (Sp.kH s f a) e t∧∃c:Nat,e=Y (I J (c:Int))):=fun e t j=>by
    have hsz:=d.size;refine⟨⟨by rw[y.o];exact j.ret,?_,(Turns.of_below d).trans j.turns (fun _ e _=>e)⟩,_,j.ret⟩;rw[y.o];refine j.at_.mono (fun k _ e=>?_);rcases e with e | e
    . exact A e
    . exact Or.inr (by omega)
   clear  z y  L m;generalize a i s.l[i]=r at *;generalize Sp.kH s f a=r2 at *;generalize s.l.length=n at *;go_wp2_with fail
   refine HC.o.mono ?_;intro e t j;obtain⟨B,c,rfl⟩:=HD.o e t j;go_wp2;go_ret;exact B
theorem Ej (l:av)(bo:ak)(fU n:Nat)(w:X)(q:gN w bo fU l)(r:l.length=n)(H:n<=140737488355328):
 Calls prog 114 #[Z bo n fU] w fun e w'=>∃ao cap,e=Y (Z ao n cap)∧gK w' (fun k=>w.heap.size<=k) 5 ao cap l∧Below w.heap.size w w':=by
 have L:∀(w:X) (a:ak) (n c d f:Nat),(binOp .eql 31 (Z a n c) (Z U d f)).run prog w=.ok (.bool a.isNone) w:=fun w a n c d f=>Lib.run_eql_slice_nil w _ _ a n c d f underlying31;cases bo with
 | none =>
   obtain⟨rfl,rfl⟩:=q.sH;subst r;go_enter func114,ntmps114;go_wp2;go_ret;exact⟨U,0,rfl,gK.nil _ _ _,eY _ _⟩
 | some a =>
   have t:=q;have u:=H9 r
   obtain⟨v,g,i,j,m⟩:=info_parts jJ;have x:=g;have y:=H9 i;have z:=H9 j;have B:=H9 m
   go_enter func114,ntmps114;go_wp2_with (at_builtin;refine kN (S:=fun _=>False) rfl (.tmp 5) (.tmp 6) 31 rfl 5 v underlying31 x y.o z.o B.o (l:=[]) rfl rfl (Or.inr ⟨rfl,rfl⟩) rfl (t.alloc _) u.o (by omega) ?_;intro C D N b s;have G:=H9 b;have p:=H9 s;clear b s)
   go_ret;refine⟨C,D,by simp,?_,?_⟩
   . have:=G.o;rw[dx] at this;exact this.mono (fun k _ e=>by
      rcases e with e | e
      . simp[jy] at e
      . simp at e;omega)
   . exact((eY _ _).alloc (aM _) _).trans (p.o.below (fun k e=>by simp[jy] at e) (by simp))
theorem Lh (w:X):
 Calls prog 33 #[] w fun e w'=>e=Y (Q (M ⟨w.heap.size,0,U⟩))∧gL w' (fun k=>w.heap.size<=k) w.heap.size Sp.new∧Below w.heap.size w w':=by
 have a:=(eY _ w).alloc (aM _) (K #[Z U 0 0,I J 0] 124);have b:gL (w.alloc (K #[Z U 0 0,I J 0] 124)) (fun k=>w.heap.size<=k) w.heap.size Sp.new:=⟨U,0,eX w _,aM _,pK.nil _ _ _ _⟩;go_enter func33,ntmps33;go_wp2;go_ret;exact⟨rfl,b,a⟩
end Go.Proofs.YthhklgjjnaeaoaaGreatDoor
namespace Go.Proofs.YthhklgjjnaeaoaaGreatDoor
def Rq.Ev.d:Rq.Ev->iH
 | .head h=>⟨1,⟨h.method.toArray⟩,⟨h.target.toArray⟩,(h.minor:Int),Rq.nu h.fields,h.length,[],⟨#[]⟩,⟨#[]⟩,⟨#[]⟩,[],0⟩
 | .body b=>⟨2,⟨#[]⟩,⟨#[]⟩,0,[],0,b,⟨#[]⟩,⟨#[]⟩,⟨#[]⟩,[],0⟩
 | .fin=>⟨3,⟨#[]⟩,⟨#[]⟩,0,[],0,[],⟨#[]⟩,⟨#[]⟩,⟨#[]⟩,[],0⟩
 | .fail c=>⟨4,⟨#[]⟩,⟨#[]⟩,0,[],0,[],⟨#[]⟩,⟨#[]⟩,⟨#[]⟩,[],(c:Int)⟩
theorem Au (e:Rq.Ev):e.d.kind=2<->e.tV=true:=by cases e <;> simp[Rq.Ev.d,Rq.Ev.tV]
theorem ZQ (l:List Rq.Ev):tailD (l.map Rq.Ev.d)=Rq.pQ l:=by
 rcases bB l with rfl | ⟨q,x,rfl⟩
 . rfl
 . rw[bD,bE,List.map_cons,List.map_nil,qF,Rq.AV];by_cases h:x.tV=true
   . rw[h];exact aI ((Au x).2 h)
   . rw[Bool.not_eq_true] at h;rw[h];exact aJ (fun k=>by rw[(Au x).1 k] at h;cases h)
theorem ab8 {l:List Rq.Ev}(g:Rq.Joined l)(e:Rq.Ev):sI (l.map Rq.Ev.d) e.d=(Rq.join (l++[e])).map Rq.Ev.d:=by
 by_cases c:e.tV=true∧Rq.pQ l=true
 . obtain⟨b,rfl⟩:∃b,e=.body b:=by
    cases e with
    | body b=>exact⟨b,rfl⟩
    | head _=>cases c.1
    | fin=>cases c.1
    | fail _=>cases c.1
   obtain⟨q,a,rfl⟩:=Rq.yP l c.2;rw[Rq.J7 g,bE,List.map_cons,List.map_nil,ow _ _ _ rfl rfl,bE];rfl
 . have f:e.tV=true->Rq.pQ l=F:=fun i=>by
    cases f:Rq.pQ l
    . rfl
    . exact absurd ⟨i,f⟩ c
   rw[Rq.MX g f,nk _ _ (fun k=>by rw[ZQ];exact f ((Au e).1 k)),bE];rfl
theorem Eu:∀l:List Rq.Ev,lC (l.map Rq.Ev.d)=Rq.iO l
 | []=>rfl
 | .body a::r=>by show a.length+lC (r.map Rq.Ev.d)=a.length+Rq.iO r;rw[Eu r]
 | .head _::r=>by show 0+lC (r.map Rq.Ev.d)=Rq.iO r;rw[Eu r];omega
 | .fin::r=>by show 0+lC (r.map Rq.Ev.d)=Rq.iO r;rw[Eu r];omega
 | .fail _::r=>by show 0+lC (r.map Rq.Ev.d)=Rq.iO r;rw[Eu r];omega
def Rq.Z5 (m t:ay)(l:au):Rq.Hd:=⟨m.data.toList,t.data.toList,0,Rq.EZ l,0⟩
end Go.Proofs.YthhklgjjnaeaoaaGreatDoor