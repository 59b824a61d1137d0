/- Small texts, one behind the other: SqA, SqB, MemKp, TuA, TsA, SqD, RfHA, SqC, SlClone, SqNew, JnD, RqHdT. -/
import Derived.Test.YtjmndjmhjleabaaGreatDoorPk15
import Derived.Test.YtjmndjmhjleabaaGreatDoorPk24
import Derived.Test.YtjmndjmhjleabaaGreatDoorFlB
open Go.Value renaming int->I,string->V,slice->Z,pointer->Q
open Go.IntKind renaming i64->J
open Go.Obj renaming cells->K
open Go.Ending renaming returned->Y
open Option renaming none->U,some->M
open Bool renaming false->F
open Or renaming inl->A
open Go renaming World->X
set_option maxHeartbeats 1600000
set_option maxRecDepth 100000
open Go.Proofs.Tryz
namespace Go.Proofs.YtjmndjmhjleabaaGreatDoor
open Go.RowKit
abbrev iU (w:X)(S:Nat->Prop)(g:Nat)(s:Sp.St):Prop:=oh w S 104 101 5 g s
theorem Jp (i z t a:Int)(m:av)(bo:aj)(n gJ b:Nat)(w:X)(c:w.cell? ⟨b,0,U⟩=M (I J a)):
 Calls prog 210 #[.agg #[I J i,I J z,V m,Z bo n gJ,I J t],Q (M ⟨b,0,U⟩)] w fun e w'=>e=Y (.bool (decide (i=a)))∧w'=w.alloc (K #[I J i,I J z,V m,Z bo n gJ,I J t] 101):=by
 have d:b<w.heap.size:=fZ w _ c;have f:(w.alloc (K #[I J i,I J z,V m,Z bo n gJ,I J t] 101)).cell? ⟨b,0,U⟩=M (I J a):=by
  rw[((fI w.heap.size w).alloc (aL _) _).cell (p:=⟨b,0,U⟩) d];exact c
 go_enter func210,ntmps210;go_wp2;go_ret;exact⟨rfl,rfl⟩
theorem Ef (l:List Sp.Up)(a:Int)(ao:aj)(cap n b:Nat)(w:X)(C:pV w ao cap l)(D:n<=cap)(O:l.length=n)(hN:n<=1000000)(x:w.cell? ⟨b,0,U⟩=M (I J a)):
 Calls prog 209 #[Z ao n cap,.func (.func 210) #[] #[Q (M ⟨b,0,U⟩)]] w fun e w'=>e=Y (I J (Sp.pl l a))∧Below w.heap.size w w':=by
 subst O;have H:=H9 C;have P:=H9 x;have S:b<w.heap.size:=fZ w _ x;clear C x;go_enter func209,ntmps209;go_wp2;go_loopw [8] (fun t wr=>∃k:Nat,k<=l.length∧t=I J k∧Below w.heap.size w wr∧∀p∈l.take k,p.id≠a) (fun t _=>l.length-(intOf t).toNat)
 case atStart=>exact⟨0,ay _,rfl,fI _ _,fun p y=>by simp at y⟩
 case round =>
  obtain⟨k,hk,rfl,G,j⟩:=hrel;have m:=H9 G;have q:=H9 j;clear G j;by_cases d:k<l.length
  . obtain⟨bb,oo,s,rfl,T,W,hc2,hc3,hc4,_⟩:=(H.o.stay m.o).at_ k d;have L:(k:Int)<l.length:=by omega
    have N:Hid (l.take (k+1)=l.take k++[l[k]]):=bN d;have v:=H9 (Jp l[k].id l[k].size l[k].sent a l[k].note s.bo l[k].bytes.length s.gJ b wr (by rw[m.o.cell (p:=⟨b,0,U⟩) S];exact P.o));have c:Hid (Below w.heap.size w (wr.alloc (K #[I J l[k].id,I J l[k].size,V l[k].note,Z s.bo l[k].bytes.length s.gJ,I J l[k].sent] 101))):=m.o.alloc m.o.size _;by_cases i:l[k].id=a
    . rw[aH i] at v;have z:Hid (Sp.pl l a=k):=Sp.zq (Sp.Kh l a k d i q.o);clear i q N;generalize l[k]=p at *;go_wp2_with fail
      refine v.o.mono ?_;rintro e B ⟨rfl,u⟩;have f:Hid (Below w.heap.size w B):=by rw[u];exact c.o
      clear u c;go_wp2;go_ret;exact⟨by rw[z.o];rfl,f.o⟩
    . rw[aI i] at v;have HE:=H9 i;clear i;generalize l[k]=p at *;go_wp2_with fail
      refine v.o.mono ?_;rintro e B ⟨rfl,u⟩;have f:Hid (Below w.heap.size w B):=by rw[u];exact c.o
      clear u c;go_wp2;go_roundw
      case rel =>
       refine⟨k+1,by omega,by go_num,f.o,fun r g=>?_⟩;rw[N.o,bA] at g;rcases g with g | g
       . exact q.o r g
       . rw[bB] at g;subst g;exact HE.o
      case measure=>simp[intOf];omega
  . obtain rfl:k=l.length:=by omega
    have z:Hid (Sp.pl l a=-1):=Sp.zo (Sp.Ki l a fun p y=>q.o p (by rw[bO];exact y));clear q;go_wp2;go_ret;exact⟨by rw[z.o];rfl,m.o⟩
theorem tY (s:Sp.St)(S:Nat->Prop)(g:Nat)(b:Int)(w:X)(h:iU w S g s)(z:s.l.length<=1000):
 Calls prog 167 #[Q (M ⟨g,0,U⟩),I J b] w fun e w'=>e=Y (I J (Sp.pl s.l b))∧Below w.heap.size w w':=by
 have d:Below w.heap.size w (w.alloc (K #[I J b] 3)):=(fI _ _).alloc (aL _) _;have t:=h.lt;obtain⟨n,a,c,f,i,j,u,v,k⟩:=h.cells;have x:=H9 (Ef s.l b n a s.l.length w.heap.size (w.alloc (K #[I J b] 3)) (k.zK.stay d) k.cap_ rfl (by omega) (World.cell?_alloc_mark w _ _ _ 0));have B:(w.alloc (K #[I J b] 3)).cell? ⟨g,0,U⟩=M (Z n s.l.length a):=by rw[d.cell (p:=⟨g,0,U⟩) t];exact c
 have y:=H9 d;have C:∀(q:Fn) (first a:Array Value) (w:X),(Instr.makeFunc q first a).run prog w=.ok (.func q first a) w:=fun _ _ _ _=>rfl;clear h d k c f i j u v;generalize s.l=l at *;go_enter func167,ntmps167;go_wp2_with fail
 refine x.o.mono ?_;rintro e D ⟨rfl,r⟩;have m:=H9 (then_ y.o r);clear r;go_wp2;go_ret;exact⟨rfl,m.o⟩
theorem R5 (s:Sp.St)(S:Nat->Prop)(g:Nat)(w:X)(h:iU w S g s)(O:s.l.length<=1000)(P:Sp.used s.l<=1000000):
 Calls prog 217 #[Q (M ⟨g,0,U⟩)] w fun e w'=>e=Y (I J (Sp.used s.l))∧Below w.heap.size w w':=by
 obtain⟨T,z,d,b,f,i,B,C,j⟩:=h.cells;have H:=H9 j.zK;have n:=j.cap_;clear h j b f i B C;generalize s.l=l at *;go_enter func217,ntmps217;go_wp2;go_loopw [3,11] (fun v t wr=>∃k:Nat,k<=l.length∧t=I J k∧v=I J (Sp.used (l.take k):Int)∧Below w.heap.size w wr) (fun _ t _=>l.length-(intOf t).toNat)
 case atStart=>exact⟨0,ay _,rfl,rfl,fI _ _⟩
 case round =>
  obtain⟨k,W,rfl,rfl,r⟩:=hrel;have c:=H9 r;clear r;have hu:=Sp.Qb l k;by_cases a:k<l.length
  . obtain⟨bb,oo,s,rfl,d,b,D,G,L,_⟩:=(H.o.stay c.o).at_ k a;have u:(k:Int)<l.length:=by omega
    have N:Hid (Sp.used (l.take (k+1))=Sp.used (l.take k)+l[k].bytes.length):=Sp.GL l k a;have x:=Sp.Va l k a;have m:Hid (∀y,Below w.heap.size w (wr.alloc y)):=fun y=>c.o.alloc c.o.size _;generalize l[k]=p at *;generalize Sp.used (l.take k)=q at *;go_wp2;go_roundw
    case rel =>
     exact⟨k+1,by omega,by go_num,by rw[N.o];go_num,m.o _⟩
    case measure=>simp[intOf];omega
  . obtain rfl:k=l.length:=by omega
    go_wp2;go_ret;exact⟨by rw[bO];rfl,c.o⟩
theorem lM (w:X)(n:Nat):Below w.heap.size w (w.drewN n):=⟨rfl,rfl,rfl,aL _,fun _ _=>rfl⟩
structure Did (S:Nat->Prop)(tO:Nat)(w:X)(g:Nat)(r:Sp.St×Nat)(e:Ending)(w':X):Prop where
 ret:e=Y (I J (r.2:Int))
 at_:oh w' (gM S w) tO 101 5 g r.1
 turns:Turns S w w'
def om (w:X)(g gu n:Nat):Prop:=∃cap,n<=cap∧w.cell? ⟨g,0,U⟩=M (Z (M ⟨gu,0,U⟩) n cap)
section
variable {w w':X} {S:Nat->Prop} {tO g gu i:Nat} {s:Sp.St}
theorem Did.none_ {c:Nat}(h:oh w S tO 101 5 g s)(a:Below w.heap.size w w'){r:Sp.St×Nat}(b:r=(s,c)):Did S tO w g r (Y (I J (c:Int))) w':=by
 subst b;exact⟨rfl,(h.stay a).mono (fun k _ e=>A e),Turns.of_below a⟩
theorem Did.put {j:Nat}{v:Value}{u:Sp.Up}(h:oh w S tO 101 5 g s)(x:om w g gu s.l.length)(n:i<s.l.length)(y:j<5)(z:∀q,(vE s.l[i] q).set j v=vE u q)(B:u.bytes=s.l[i].bytes){r:Sp.St×Nat}(C:r=(⟨s.l.set i u,s.last⟩,0)):Did S tO w g r (Y (I J 0)) (w.setCell ⟨gu,i*5+j,U⟩ v):=by
 subst C;obtain⟨L,d,D,N,O,P,G,H,o⟩:=h.cells;obtain⟨p,T,c⟩:=x;rw[D] at c;injection c with c;injection c with ha _ _;subst ha;obtain⟨f,t⟩:=o.put n y z B;obtain⟨W,a,b,_,_⟩:=o.at_.row i n;injection a with a;injection a with a;subst a;have m:Turns S w (w.setCell ⟨gu,i*5+j,U⟩ v):=t.mono (fun k e=>by subst e;exact b.1);refine⟨rfl,⟨M ⟨gu,0,U⟩,d,?_,A H,?_⟩,m⟩
 . have:=t.row G (fun e=>b.2 e.symm);simpa using this
 . exact f.mono (fun k _ e=>⟨A e.1,e.2⟩)
theorem Did.from_ {a:X}{r:Sp.St×Nat}{e:Ending}(b:Below w.heap.size w a)(h:Did S tO a g r e w'):Did S tO w g r e w':=by
 have c:=b.size;refine⟨h.ret,h.at_.mono (fun k _ e=>?_),(Turns.of_below b).trans h.turns (fun _ e _=>e)⟩;rcases e with e | e
 . exact A e
 . exact Or.inr (by omega)
theorem om.stay {n:Nat}(h:om w g gu n)(c:Below w.heap.size w w'):om w' g gu n:=by
 obtain⟨a,d,b⟩:=h;exact⟨a,d,by rw[c.cell (fZ w _ b)];exact b⟩
theorem om.of (h:oh w S tO 101 5 g s)(c:i<s.l.length):∃gu,om w g gu s.l.length:=by
 obtain⟨f,a,d,j,k,m,n,o,b⟩:=h.cells;obtain⟨e,rfl,_⟩:=b.at_.row i c;exact⟨e,a,b.cap_,d⟩
theorem om.up (h:oh w S tO 101 5 g s)(d:om w g gu s.l.length)(e:i<s.l.length):∃q:yP,w.cell? ⟨gu,i*5,U⟩=M (I J s.l[i].id)∧w.cell? ⟨gu,i*5+1,U⟩=M (I J s.l[i].size)∧w.cell? ⟨gu,i*5+2,U⟩=M (V s.l[i].note)∧w.cell? ⟨gu,i*5+3,U⟩=M (Z q.bo s.l[i].bytes.length q.gJ)∧w.cell? ⟨gu,i*5+4,U⟩=M (I J s.l[i].sent)∧(∀j,w.frozen? ⟨gu,j,U⟩=F)∧iG w q.bo q.gJ s.l[i].bytes:=by
 obtain⟨x,f,k,y,z,B,C,D,m⟩:=h.cells;obtain⟨c,G,b⟩:=d;rw[k] at b;injection b with b;injection b with ha _ _;subst ha;obtain⟨H,q,a,_,_,n,o,p,r,t,u,v,_⟩:=m.lies i e;injection a with a;injection a with a;subst a;exact⟨q,n,o,p,r,t,u,v.wZ⟩
end
abbrev ObP:=X->(Nat->Prop)->Nat->Sr.Sh->Prop
structure Ep (O:ObP):Prop where
 turns:∀{w w':X} {S S':Nat->Prop} {g:Nat} {s:Sr.Sh},O w S g s->Turns S' w w'->(∀k,S k->¬S' k)->O w' S g s
 mono:∀{w:X} {S S':Nat->Prop} {g:Nat} {s:Sr.Sh},O w S g s->(∀k,k<w.heap.size->S k->S' k)->O w S' g s
structure zQ (O:ObP)(S:Nat->Prop)(w:X)(g:Nat)(r:Sr.Sh×Tu.zi)(e:Ending)(w':X):Prop where
 ret:∃(ao:aj) (cap n:Nat),e=Y (.agg #[I J (r.2.1:Int),Z ao n cap,Z U 0 0])∧r.2.2.length=n∧gU w' w.heap.size 111 2 ao cap n (gT r.2.2)
 at_:O w' (gM S w) g r.1
 turns:Turns S w w'
structure jr (O:ObP)(S:Nat->Prop)(w:X)(g:Nat)(bs:List Obj)(s:Sr.Sh)(S':Nat->Prop)(W:X):Prop where
 bx:∀i,i<bs.length->W.heap[w.heap.size+i]? = bs[i]?
 sh:O W S' g s
 ap:∀k,S' k->(S k∧k<w.heap.size)∨w.heap.size+bs.length<=k
 tu:Turns (fun k=>S k∧k<w.heap.size) w W
 sz:w.heap.size+bs.length<=W.heap.size
section
variable {O:ObP} {S S' S'':Nat->Prop} {w W W':X} {g:Nat} {bs:List Obj} {s s':Sr.Sh}
theorem jr.start (L:Ep O)(h:O w S g s):jr O S w g [] s (fun k=>S k∧k<w.heap.size) w :=
 ⟨fun i a=>by simp at a,L.mono h (fun k b e=>⟨e,b⟩),fun k e=>A e,Turns.refl _ _,by simp⟩
theorem jr.stay (L:Ep O)(h:jr O S w g bs s S' W)(a:Below W.heap.size W W'):jr O S w g bs s S' W':=by
 have b:=h.sz;refine⟨fun i c=>(a.block _ (by omega)).trans (h.bx i c),L.turns h.sh (Turns.of_below (S:=fun _=>False) a) (fun _ _ e=>e),h.ap,h.tu.trans (Turns.of_below (S:=fun _=>False) a) (fun _ e _=>e.elim),dF b a.size⟩
theorem jr.box (L:Ep O)(h:jr O S w g bs s S' W)(d:W.heap.size=w.heap.size+bs.length)(f:∀k,S' k->k<W.heap.size)(o:Obj):jr O S w g (bs++[o]) s S' (W.alloc o):=by
 have j:=(fI _ W).alloc (aL _) o;have a:=h.stay L j;refine⟨fun i l=>?_,a.sh,fun k e=>?_,a.tu,by rw[fV];simp;omega⟩
 . rcases aT i bs.length with b | b
   . rw[aX b];exact a.bx i b
   . have:i=bs.length:=by simp at l;omega
     subst this;rw[bq (aL _),Nat.sub_self,<-d];exact fH W o
 . rcases h.ap k e with c | c
   . exact A c
   . have:=f k e;omega
theorem jr.did (h:jr O S w g bs s S' W)(c:O W' (gM S' W) g s')(b:Turns S' W W'):jr O S w g bs s' (gM S' W) W':=by
 have d:=h.sz;refine⟨fun i f=>?_,c,fun k e=>?_,h.tu.trans b (fun k e j=>?_),dF d b.size⟩
 . refine(b.block _ (by omega) (fun e=>?_)).trans (h.bx i f);rcases h.ap _ e with a | a
   . omega
   . omega
 . rcases e with e | e
   . exact h.ap k e
   . exact Or.inr (by omega)
 . rcases h.ap k e with a | a
   . exact a
   . omega
theorem jr.turned (h:jr O S w g bs s S' W)(c:O W' S' g s')(b:Turns S' W W'):jr O S w g bs s' S' W':=by
 have d:=h.sz;refine⟨fun i f=>?_,c,h.ap,h.tu.trans b (fun k e j=>?_),dF d b.size⟩
 . refine(b.block _ (by omega) (fun e=>?_)).trans (h.bx i f);rcases h.ap _ e with a | a
   . omega
   . omega
 . rcases h.ap k e with a | a
   . exact a
   . omega
theorem jr.row (h:jr O S w g bs s S' W)(i:Nat){o:Obj}(a:bs[i]? = M o):W.heap[w.heap.size+i]? = M o:=(h.bx i (aP.1 a).1).trans a
theorem jr.ends (L:Ep O)(h:jr O S w g bs s S' W){i:Nat}(q:bs[i]? = M (K #[I J 0,Z U 0 0,Z U 0 0] 88 (0,0))){b:Nat}(x:w.heap.size+i=b){st:Nat}{mE:Int}(j:(st:Int)=mE){l:ak}{ao:aj}{cap n:Nat}(y:l.length=n){c:Nat}(m:w.heap.size<=c)(t:gU W' c 111 2 ao cap n (gT l))(z:Below W.heap.size W W'):
 (W'.cell? ⟨b,0,U⟩=M (I J 0)∧W'.cell? ⟨b,1,U⟩=M (Z U 0 0)∧W'.cell? ⟨b,2,U⟩=M (Z U 0 0)∧W'.frozen? ⟨b,0,U⟩=F∧W'.frozen? ⟨b,1,U⟩=F∧W'.frozen? ⟨b,2,U⟩=F) ∧
 Hid ((((W'.setCell ⟨b,0,U⟩ (I J mE)).setCell ⟨b,1,U⟩ (Z ao n cap)).setCell ⟨b,2,U⟩ (Z U 0 0)).cell? ⟨b,0,U⟩=M (I J mE)∧(((W'.setCell ⟨b,0,U⟩ (I J mE)).setCell ⟨b,1,U⟩ (Z ao n cap)).setCell ⟨b,2,U⟩ (Z U 0 0)).cell? ⟨b,1,U⟩=M (Z ao n cap)∧(((W'.setCell ⟨b,0,U⟩ (I J mE)).setCell ⟨b,1,U⟩ (Z ao n cap)).setCell ⟨b,2,U⟩ (Z U 0 0)).cell? ⟨b,2,U⟩=M (Z U 0 0)∧zQ O S w g (s,(st,l)) (Y (.agg #[I J mE,Z ao n cap,Z U 0 0])) (((W'.setCell ⟨b,0,U⟩ (I J mE)).setCell ⟨b,1,U⟩ (Z ao n cap)).setCell ⟨b,2,U⟩ (Z U 0 0))):=by
 subst x;subst j;have o:=h.stay L z;have B:=(aP.1 q).1;have G:=h.sz;have r:=o.row i q;refine⟨⟨fJ W' _ 0 _ _ _ r,fJ W' _ 1 _ _ _ r,fJ W' _ 2 _ _ _ r,fK W' _ 0 _ _ r,fK W' _ 1 _ _ r,fK W' _ 2 _ _ r⟩,?_⟩;have C:=fM W' (w.heap.size+i) 0 _ _ (I J (st:Int)) r;have D:=fM _ (w.heap.size+i) 1 _ _ (Z ao n cap) C;have p:=fM _ (w.heap.size+i) 2 _ _ (Z U 0 0) D;have d:=gZ (w.heap.size+i) [I J (st:Int),Z ao n cap,Z U 0 0] 0 W';replace d:Turns (fun k=>k=w.heap.size+i) W' (((W'.setCell ⟨w.heap.size+i,0,U⟩ (I J (st:Int))).setCell ⟨w.heap.size+i,1,U⟩ (Z ao n cap)).setCell ⟨w.heap.size+i,2,U⟩ (Z U 0 0)):=d;refine⟨fJ _ _ 0 _ _ _ p,fJ _ _ 1 _ _ _ p,fJ _ _ 2 _ _ _ p,⟨⟨ao,cap,n,rfl,y,?_⟩,?_,?_⟩⟩
 . have u:=lF r t (by decide);rw[gN] at u;exact(t.turns d (fun a e v=>u (by rw[e];show M a.block=_;rw[v]))).mono m
 . refine L.mono (L.turns o.sh d (fun k e v=>?_)) (fun k _ e=>?_)
   . rcases h.ap k e with f | f
     . omega
     . omega
   . rcases h.ap k e with f | f
     . exact A f.1
     . exact Or.inr (by omega)
 . exact(o.tu.trans d (fun k e H=>by omega)).mono (fun k e=>e.1)
theorem jr.aside (L:Ep O)(h:jr O S w g bs s S' W){b:Nat}(a:Turns (fun k=>k=b) W W')(l:w.heap.size+bs.length<=b)(c:¬S' b):jr O S w g bs s S' W':=by
 have d:=h.sz;refine⟨fun i f=>(a.block _ (by omega) (by omega)).trans (h.bx i f),L.turns h.sh a (fun k e j=>c (by rw[<-j];exact e)),h.ap,h.tu.trans a (fun k e m=>by omega),dF d a.size⟩
end
theorem kE (n v:av)(w:X):Calls prog 87 #[V n,V v] w fun e w'=>e=Y (.agg #[V n,V v])∧Below w.heap.size w w':=by
 have a:(w.alloc (K #[V n,V v] 111)).cell? ⟨w.heap.size,0,U⟩=M (V n):=World.cell?_alloc_mark w _ _ _ 0;have b:(w.alloc (K #[V n,V v] 111)).cell? ⟨w.heap.size,1,U⟩=M (V v):=World.cell?_alloc_mark w _ _ _ 1;go_enter func87,ntmps87;go_wp2;exact gq (v:=.agg #[V n,V v]) (by simp[results,results87,go_sem,a,b]) rfl ⟨rfl,(fI _ w).alloc (aL _) _⟩
def iR (st:Int)(ao:aj)(n cap:Nat):Ending:=.panicked [{ v:=.iface 157 (.agg #[I J st,Z ao n cap,Z U 0 0]),recovered:=F }]
def qH (w:X)(r:Tu.zi)(e:Ending)(w':X):Prop:=∃(ao:aj) (cap n:Nat),e=iR (r.1:Int) ao n cap∧r.2.length=n∧gU w' w.heap.size 111 2 ao cap n (gT r.2)∧Below w.heap.size w w'
def Le (w:X)(r:Tu.zi)(e:Ending)(w':X):Prop:=∃(ao:aj) (cap n:Nat),e=Y (.agg #[I J (r.1:Int),Z ao n cap,Z U 0 0])∧r.2.length=n∧gU w' w.heap.size 111 2 ao cap n (gT r.2)∧Below w.heap.size w w'
theorem qH.from_ {w b w':X}{r:Tu.zi}{e:Ending}(c:Below w.heap.size w b)(h:qH b r e w'):qH w r e w':=by
 obtain⟨d,a,n,f,g,i,j⟩:=h;exact⟨d,a,n,f,g,i.mono c.size,then_ c j⟩
theorem BN (st:Nat)(mE:Int)(x:(st:Int)=mE)(l:ak)(H:aj)(L n:Nat)(w:X)(N:jm w H L n (gT l))(O:l.length=n)(hN:n<=1000):
 Calls prog 93 #[I J mE,Z H n L] w fun e w'=>Le w (Tu.said st l) e w':=by
 obtain⟨i0,y,z,B,C⟩:=info_parts rT;have Hi:=H9 y;have kJ:=H9 z;have kG:=H9 B;have kK:=H9 C
 have P:=H9 (kE Tu.AA Tu.jO (w.alloc (K #[I J 0,Z U 0 0,Z U 0 0] 88)));have HL:=H9 N;have S:=H9 O;have G:=H9 x
 have T:=(fI _ w).alloc (aL _) (K #[I J 0,Z U 0 0,Z U 0 0] 88);have oG:=H9 T;clear y z B C N O x T;unfold Tu.AA Tu.jO at P;go_enter func93,ntmps93;go_wp2_with fail
 refine P.o.mono ?_;rintro e p ⟨rfl,r⟩;have s:p.heap[w.heap.size]? = M (K #[I J 0,Z U 0 0,Z U 0 0] 88 (0,0)):=(r.block w.heap.size (by simp)).trans (fH w _);have D:=(aK.1 s).1;have g:=then_ (then_ oG.o r) ((fI _ p).alloc (aL _) (K #[V Tu.AA,V Tu.jO] 111));have W:gU (p.alloc (K #[V Tu.AA,V Tu.jO] 111)) w.heap.size 111 2 (M ⟨p.heap.size,0,U⟩) 1 1 [V Tu.AA,V Tu.jO]:=gD p #[V Tu.AA,V Tu.jO] 1 (by omega) (by decide) rfl;have t:=(((fI _ p).alloc (aL _) (K #[V Tu.AA,V Tu.jO] 111)).block w.heap.size D).trans s;have HV:=H9 (HL.o.stay g);have HO:=H9 W;have HE:Hid (∀(d:aj) (f:Nat) (b:X),gU b w.heap.size 111 2 d f (1+n) ([V Tu.AA,V Tu.jO]++gT l)->(p.alloc (K #[V Tu.AA,V Tu.jO] 111)).grownBy b (M p.heap.size)->(b.cell? ⟨w.heap.size,0,U⟩=M (I J 0)∧b.cell? ⟨w.heap.size,1,U⟩=M (Z U 0 0)∧b.cell? ⟨w.heap.size,2,U⟩=M (Z U 0 0)∧b.frozen? ⟨w.heap.size,0,U⟩=F∧b.frozen? ⟨w.heap.size,1,U⟩=F∧b.frozen? ⟨w.heap.size,2,U⟩=F) ∧
  Hid ((((b.setCell ⟨w.heap.size,0,U⟩ (I J mE)).setCell ⟨w.heap.size,1,U⟩ (Z d (1+n) f)).setCell ⟨w.heap.size,2,U⟩ (Z U 0 0)).heap[w.heap.size]? = M (K #[I J mE,Z d (1+n) f,Z U 0 0] 88 (0,0))∧Le w (Tu.said st l) (Y (.agg #[I J mE,Z d (1+n) f,Z U 0 0])) (((b.setCell ⟨w.heap.size,0,U⟩ (I J mE)).setCell ⟨w.heap.size,1,U⟩ (Z d (1+n) f)).setCell ⟨w.heap.size,2,U⟩ (Z U 0 0)))):=fun d f b i j=>by
  have c:=(j.block _ (aK.1 t).1 (fun e=>by injection e with e;omega)).trans t;refine⟨⟨fJ b _ 0 _ _ _ c,fJ b _ 1 _ _ _ c,fJ b _ 2 _ _ _ c,fK b _ 0 _ _ c,fK b _ 1 _ _ c,fK b _ 2 _ _ c⟩,?_⟩;have r0:=fM b w.heap.size 0 _ _ (I J mE) c;have r1:=fM _ w.heap.size 1 _ _ (Z d (1+n) f) r0;have r2:=fM _ w.heap.size 2 _ _ (Z U 0 0) r1;refine⟨r2,d,f,1+n,by rw[<-G.o];rfl,?_,?_,?_⟩
  . show(_::l).length=1+n;have:=S.o;simp only[aW];omega
  . have nz:=lF c i (by decide);rw[gN] at nz;exact i.turns (gZ w.heap.size [I J mE,Z d (1+n) f,Z U 0 0] 0 b) (fun a e e2=>nz (by rw[e];show M a.block=_;rw[e2]))
  . have h3:Below w.heap.size w b:=g.grown j g.size (fun q e=>by injection e with e;omega);exact h3.trans ((gZ w.heap.size [I J mE,Z d (1+n) f,Z U 0 0] 0 b).below (fun k e=>by omega) h3.size)
 have HZ:Hid (w.heap.size<=(p.alloc (K #[V Tu.AA,V Tu.jO] 111)).heap.size):=g.size;have MX:Hid ((gT l).length=n*2):=by unfold Hid;rw[mV,S.o]
 unfold Tu.AA Tu.jO at HO HV HE HZ;clear r s D g W t;go_wp2_with (at_builtin;refine gQ rfl (.tmp 7) (.tmp 8) 66 rfl w.heap.size 111 i0 (.agg #[V ⟨#[]⟩,V ⟨#[]⟩]) 2 32 underlying66 Hi.o kJ.o kG.o kK.o rfl (by decide) rfl HO.o rfl HV.o MX.o (Gu l) (by omega) (by omega) HZ.o ?_;intro d f b i j _;obtain⟨⟨x0,x1,x2,y0,y1,y2⟩,HX⟩:=HE.o d f b i j;clear i j)
 generalize (((b.setCell ⟨w.heap.size,0,U⟩ (I J mE)).setCell ⟨w.heap.size,1,U⟩ (Z d (1+n) f)).setCell ⟨w.heap.size,2,U⟩ (Z U 0 0))=u at *;obtain⟨m,hD⟩:=HX.o;have q0:u.cell? ⟨w.heap.size,0,U⟩=M (I J mE):=fJ u _ 0 _ _ _ m;have q1:u.cell? ⟨w.heap.size,1,U⟩=M (Z d (1+n) f):=fJ u _ 1 _ _ _ m;have q2:u.cell? ⟨w.heap.size,2,U⟩=M (Z U 0 0):=fJ u _ 2 _ _ _ m;exact gq (v:=.agg #[I J mE,Z d (1+n) f,Z U 0 0]) (by simp[results,results93,go_sem,q0,q1,q2]) rfl hD
theorem jY (st:Nat)(mE:Int)(a:(st:Int)=mE)(l:ak)(b:aj)(c n:Nat)(w:X)(d:jm w b c n (gT l))(f:l.length=n)(g:n<=1000):
 Calls prog 93 #[I J mE,Z b n c] w fun e w'=>∃(ao:aj) (cap k:Nat),e=Y (.agg #[I J mE,Z ao k cap,Z U 0 0])∧((Tu.AA,Tu.jO)::l).length=k∧gU w' w.heap.size 111 2 ao cap k (gT ((Tu.AA,Tu.jO)::l))∧Below w.heap.size w w':=by
 subst a;exact BN st _ rfl l b c n w d f g
theorem iQ (mE:Int)(a:aj)(n b:Nat)(w:X):Calls prog 86 #[.bool true,I J mE,Z a n b] w fun e w'=>e=Y (.tuple #[])∧w'=w:=by
 go_enter func86,ntmps86;go_wp2;go_end0
 exact⟨rfl,rfl⟩
theorem zR (st:Nat)(mE:Int)(a:(st:Int)=mE)(l:ak)(c:aj)(d n:Nat)(w:X)(f:jm w c d n (gT l))(g:l.length=n)(q:n<=1000):
 Calls prog 86 #[.bool F,I J mE,Z c n d] w fun e w'=>qH w (Tu.said st l) e w':=by
 have r:=H9 (BN st mE a l c d n w f g q);clear f g a;go_enter func86,ntmps86;go_wp2_with fail
 refine r.o.mono ?_;rintro e s ⟨i,b,m,rfl,j,k,p⟩;have t:Hid (qH w (Tu.said st l) (iR ((Tu.said st l).1:Int) i m b) s):=⟨i,b,m,rfl,j,k,p⟩;clear j k p;go_wp2;exact⟨rfl,t.o⟩
theorem iV (st:Nat)(mE:Int)(a:(st:Int)=mE)(w:X):Calls prog 86 #[.bool F,I J mE,Z U 0 0] w fun e w'=>qH w (Tu.said st []) e w' :=
 zR st mE a [] U 0 0 w (jm.nil w) rfl (by decide)
theorem Wq (b o:Nat)(z:Int)(w:X)(d:w.cell? ⟨b,o+1,U⟩=M (I J z)):
 Calls prog 216 #[Q (M ⟨b,o,U⟩)] w fun e w'=>e=Y (I J (if z=-1 then 2000 else z))∧w'=w:=by
 by_cases a:z=-1
 . subst a;go_enter func216,ntmps216;go_wp2;go_ret;exact⟨rfl,rfl⟩
 . have c:=H9 a;go_enter func216,ntmps216;go_wp2;go_ret;exact⟨by first | rfl | (rw[if_neg c.o];rfl),rfl⟩
theorem NY (s:Sp.St)(S:Nat->Prop)(g y i B:Nat)(a:Int)(w:X)(h:iU w S g s)(k:om w g y s.l.length)(C:i<s.l.length)(G:-1<=s.l[i].size)(O:w.cell? ⟨B,0,U⟩=M (I J a)):
 Calls prog 218 #[Q (M ⟨y,i*5,U⟩),Q (M ⟨B,0,U⟩)] w (Did S 104 w g (Sp.jG s a i s.l[i])):=by
 obtain⟨q,p,P,t,D,v,m,x⟩:=om.up h k C;by_cases T:s.l[i].size=-1
 . have e:¬0<=s.l[i].size:=by omega
   by_cases b:a<0
   . have d:Hid (Did S 104 w g (Sp.jG s a i s.l[i]) (Y (I J (1:Nat))) w):=Did.none_ h (fI _ _) (by unfold Sp.jG;rw[if_neg e,if_pos b]);clear h k m p t D v x e;generalize s.l[i]=u at *;go_enter func218,ntmps218;go_wp2;go_ret;exact d.o
   . have W:decide (a<0)=F:=by rw[bP];exact b
     by_cases f:2000<a
     . have d:Hid (∀n,Did S 104 w g (Sp.jG s a i s.l[i]) (Y (I J (4:Nat))) (w.drewN n)):=fun n=>Did.none_ (c:=4) (r:=Sp.jG s a i s.l[i]) h (lM w n) (by unfold Sp.jG;rw[if_neg e,if_neg b,if_pos (A f)]);have H:decide (a > 2000)=true:=by rw[bQ];exact f
       clear h k m p t v x e;generalize s.l[i]=u at *;go_enter func218,ntmps218;go_wp2;go_quiet (fail)
       go_wp2;go_ret;exact d.o _
     . have H:decide (a > 2000)=F:=by rw[bP];omega
       by_cases j:a<s.l[i].bytes.length
       . have d:Hid (∀n,Did S 104 w g (Sp.jG s a i s.l[i]) (Y (I J (4:Nat))) (w.drewN n)):=fun n=>Did.none_ (c:=4) (r:=Sp.jG s a i s.l[i]) h (lM w n) (by unfold Sp.jG;rw[if_neg e,if_neg b,if_pos (Or.inr j)]);have L:decide (a<(s.l[i].bytes.length:Int))=true:=by rw[bQ];exact j
         clear h k m p t v x e;generalize s.l[i]=u at *;go_enter func218,ntmps218;go_wp2;go_quiet (fail)
         go_wp2;go_ret;exact d.o _
       . have z:=lM w;have d:Hid (∀n,Did S 104 w g (Sp.jG s a i s.l[i]) (Y (I J 0)) ((w.drewN n).setCell ⟨y,i*5+1,U⟩ (I J a))):=fun n =>
          Did.from_ (z n) (Did.put (u:={ s.l[i] with size:=a }) (h.stay (z n)) (k.stay (z n)) C (by decide) (fun q=>rfl) rfl (by unfold Sp.jG;rw[if_neg e,if_neg b,if_neg (by omega)]))
         have L:decide (a<(s.l[i].bytes.length:Int))=F:=by rw[bP];omega
         have N:w.frozen? ⟨y,i*5+1,U⟩=F:=m _;clear h k m p t v x e z;generalize s.l[i]=u at *;go_enter func218,ntmps218;go_wp2;go_quiet (fail)
         go_wp2;go_ret;exact d.o _
 . have d:Hid (Did S 104 w g (Sp.jG s a i s.l[i]) (Y (I J (18:Nat))) w):=Did.none_ h (fI _ _) (by unfold Sp.jG;rw[if_pos (by omega)]);clear h k m p t D v x;generalize s.l[i]=u at *;go_enter func218,ntmps218;go_wp2;go_ret;exact d.o
theorem OE (s:Sp.St)(S:Nat->Prop)(g:Nat)(f:Int)(w:X)(h:iU w S g s)(T:s.l.length<=1000)(G:Nat)(b:Nat->Sp.Up->Sp.St×Nat)
 (H:∀d i x (y:i<s.l.length),Below w.heap.size w d->iU d S g s->om d g x s.l.length->Calls prog 218 #[Q (M ⟨x,i*5,U⟩),Q (M ⟨G,0,U⟩)] d (Did S 104 d g (b i s.l[i]))) :
 Calls prog 214 #[Q (M ⟨g,0,U⟩),I J f,.func (.func 218) #[] #[Q (M ⟨G,0,U⟩)]] w (Did S 104 w g (Sp.nY s f b)):=by
 have p:=H9 (tY s S g f w h T);have z:=H9 h;have L:=H9 H;clear h H;cases j:Sp.place s.l f with
 | none =>
   rw[Sp.zo j] at p;have HR:Hid (∀W,Below w.heap.size w W->Did S 104 w g (Sp.nY s f b) (Y (I J (10:Nat))) W):=fun W a=>Did.none_ z.o a (Sp.Ar j);clear j;go_enter func214,ntmps214;go_wp2_with fail
   refine p.o.mono ?_;rintro e d ⟨rfl,a⟩;have N:=H9 a;clear a;go_wp2;go_ret;exact HR.o _ N.o
 | some i =>
   rw[Sp.zq j] at p;have y:=Sp.tT j;have q:Sp.nY s f b=b i (s.l[i]'y):=Sp.Au j;clear j;have B:=H9 q;clear q;go_enter func214,ntmps214;go_wp2_with fail
   refine p.o.mono ?_;rintro e d ⟨rfl,a⟩;have C:=z.o.stay a;obtain⟨x,t⟩:=om.of C y;have HC:=H9 (L.o d i x y a C t);have N:=H9 a;obtain⟨cap,O,hc⟩:=t;have hi':(i:Int)<s.l.length:=by omega
   have P:Hid (∀e u,Did S 104 d g (b i s.l[i]) e u->Did S 104 w g (Sp.nY s f b) e u∧∃c:Nat,e=Y (I J (c:Int))):=fun e u m=>by
    have hsz:=a.size;refine⟨⟨by rw[B.o];exact m.ret,?_,(Turns.of_below a).trans m.turns (fun _ e _=>e)⟩,_,m.ret⟩;rw[B.o];refine m.at_.mono (fun k _ e=>?_);rcases e with e | e
    . exact A e
    . exact Or.inr (by omega)
   clear a C B z L p;generalize b i s.l[i]=r at *;generalize Sp.nY s f b=r2 at *;generalize s.l.length=n at *;go_wp2_with fail
   refine HC.o.mono ?_;intro e u m;obtain⟨v,c,rfl⟩:=P.o e u m;have D:=H9 v;clear m v P;go_wp2;go_ret;exact D.o
theorem OG (s:Sp.St)(S:Nat->Prop)(g:Nat)(f:Int)(w:X)(h:iU w S g s)(hN:s.l.length<=1000)(G H L:Nat)(b:Nat->Sp.Up->Sp.St×Nat)
 (N:∀d i x (y:i<s.l.length),Below w.heap.size w d->iU d S g s->om d g x s.l.length->Calls prog 215 #[Q (M ⟨x,i*5,U⟩),Q (M ⟨G,0,U⟩),Q (M ⟨H,0,U⟩),Q (M ⟨L,0,U⟩)] d (Did S 104 d g (b i s.l[i]))) :
 Calls prog 214 #[Q (M ⟨g,0,U⟩),I J f,.func (.func 215) #[] #[Q (M ⟨G,0,U⟩),Q (M ⟨H,0,U⟩),Q (M ⟨L,0,U⟩)]] w (Did S 104 w g (Sp.nY s f b)):=by
 have p:=H9 (tY s S g f w h hN);have z:=H9 h;have O:=H9 N;clear h N;cases j:Sp.place s.l f with
 | none =>
   rw[Sp.zo j] at p;have HR:Hid (∀W,Below w.heap.size w W->Did S 104 w g (Sp.nY s f b) (Y (I J (10:Nat))) W):=fun W a=>Did.none_ z.o a (Sp.Ar j);clear j;go_enter func214,ntmps214;go_wp2_with fail
   refine p.o.mono ?_;rintro e d ⟨rfl,a⟩;have P:=H9 a;clear a;go_wp2;go_ret;exact HR.o _ P.o
 | some i =>
   rw[Sp.zq j] at p;have y:=Sp.tT j;have q:Sp.nY s f b=b i (s.l[i]'y):=Sp.Au j;clear j;have B:=H9 q;clear q;go_enter func214,ntmps214;go_wp2_with fail
   refine p.o.mono ?_;rintro e d ⟨rfl,a⟩;have C:=z.o.stay a;obtain⟨x,t⟩:=om.of C y;have HC:=H9 (O.o d i x y a C t);have P:=H9 a;obtain⟨cap,T,hc⟩:=t;have hi':(i:Int)<s.l.length:=by omega
   have HD:Hid (∀e u,Did S 104 d g (b i s.l[i]) e u->Did S 104 w g (Sp.nY s f b) e u∧∃c:Nat,e=Y (I J (c:Int))):=fun e u m=>by
    have hsz:=a.size;refine⟨⟨by rw[B.o];exact m.ret,?_,(Turns.of_below a).trans m.turns (fun _ e _=>e)⟩,_,m.ret⟩;rw[B.o];refine m.at_.mono (fun k _ e=>?_);rcases e with e | e
    . exact A e
    . exact Or.inr (by omega)
   clear a C B z O p;generalize b i s.l[i]=r at *;generalize Sp.nY s f b=r2 at *;generalize s.l.length=n at *;go_wp2_with fail
   refine HC.o.mono ?_;intro e u m;obtain⟨v,c,rfl⟩:=HD.o e u m;have D:=H9 v;clear m v HD;go_wp2;go_ret;exact D.o
theorem EK (l:au)(bo:aj)(gJ n:Nat)(w:X)(j:iG w bo gJ l)(m:l.length=n)(H:n<=140737488355328):
 Calls prog 114 #[Z bo n gJ] w fun e w'=>∃ao cap,e=Y (Z ao n cap)∧gY w' (fun k=>w.heap.size<=k) 5 ao cap l∧Below w.heap.size w w':=by
 have L:∀(w:X) (a:aj) (n c p q:Nat),(binOp .eql 31 (Z a n c) (Z U p q)).run prog w=.ok (.bool a.isNone) w:=fun w a n c p q=>Lib.run_eql_slice_nil w _ _ a n c p q underlying31;cases bo with
 | none =>
   obtain⟨rfl,rfl⟩:=j.ru;subst m;go_enter func114,ntmps114;go_wp2;go_ret;exact⟨U,0,rfl,gY.nil _ _ _,fI _ _⟩
 | some a =>
   have t:=H9 j;have u:=H9 m
   obtain⟨v,b,d,f,g⟩:=info_parts jN;have x:=H9 b;have y:=H9 d;have z:=H9 f;have B:=H9 g
   clear b d f g j m;go_enter func114,ntmps114;go_wp2_with (at_builtin;refine nC (S:=fun _=>False) rfl (.tmp 5) (.tmp 6) 31 rfl 5 v underlying31 x.o y.o z.o B.o (l:=[]) rfl rfl (Or.inr ⟨rfl,rfl⟩) rfl (t.o.alloc _) u.o (by omega) ?_;intro C D N i s;have G:=H9 i;have r:=H9 s;clear i s)
   go_ret;refine⟨C,D,by simp,?_,?_⟩
   . have:=G.o;rw[dx] at this;exact this.mono (fun k _ e=>by
      rcases e with e | e
      . simp[jM] at e
      . simp at e;omega)
   . exact((fI _ _).alloc (aL _) _).trans (r.o.below (fun k e=>by simp[jM] at e) (by simp))
theorem W9 (w:X):
 Calls prog 22 #[] w fun e w'=>e=Y (Q (M ⟨w.heap.size,0,U⟩))∧iU w' (fun k=>w.heap.size<=k) w.heap.size Sp.new∧Below w.heap.size w w':=by
 have a:=(fI _ w).alloc (aL _) (K #[Z U 0 0,I J 0] 104);have b:Hid (iU (w.alloc (K #[Z U 0 0,I J 0] 104)) (fun k=>w.heap.size<=k) w.heap.size Sp.new):=⟨U,0,fH w _,aL _,qE.nil _ _ _ _⟩;have c:=H9 a;clear a;go_enter func22,ntmps22;go_wp2;go_ret;exact⟨rfl,b.o,c.o⟩
end Go.Proofs.YtjmndjmhjleabaaGreatDoor
namespace Go.Proofs.YtjmndjmhjleabaaGreatDoor
def Rq.Ev.d:Rq.Ev->iM
 | .head h=>⟨1,⟨h.method.toArray⟩,⟨h.target.toArray⟩,(h.minor:Int),Rq.nu h.fields,h.length,[],⟨#[]⟩,⟨#[]⟩,⟨#[]⟩,[],0⟩
 | .body b=>⟨2,⟨#[]⟩,⟨#[]⟩,0,[],0,b,⟨#[]⟩,⟨#[]⟩,⟨#[]⟩,[],0⟩
 | .fin=>⟨3,⟨#[]⟩,⟨#[]⟩,0,[],0,[],⟨#[]⟩,⟨#[]⟩,⟨#[]⟩,[],0⟩
 | .fail c=>⟨4,⟨#[]⟩,⟨#[]⟩,0,[],0,[],⟨#[]⟩,⟨#[]⟩,⟨#[]⟩,[],(c:Int)⟩
theorem Bl (e:Rq.Ev):e.d.kind=2<->e.uH=true:=by cases e <;> simp[Rq.Ev.d,Rq.Ev.uH]
theorem Z4 (l:List Rq.Ev):tailD (l.map Rq.Ev.d)=Rq.qh l:=by
 rcases bC l with rfl | ⟨q,x,rfl⟩
 . rfl
 . rw[bE,bF,List.map_cons,List.map_nil,rJ,Rq.BF];by_cases h:x.uH=true
   . rw[h];exact aH ((Bl x).2 h)
   . rw[Bool.not_eq_true] at h;rw[h];exact aI (fun k=>by rw[(Bl x).1 k] at h;cases h)
theorem acN {l:List Rq.Ev}(g:Rq.Joined l)(e:Rq.Ev):vL (l.map Rq.Ev.d) e.d=(Rq.join (l++[e])).map Rq.Ev.d:=by
 by_cases c:e.uH=true∧Rq.qh l=true
 . obtain⟨b,rfl⟩:∃b,e=.body b:=by
    cases e with
    | body b=>exact⟨b,rfl⟩
    | head _=>cases c.1
    | fin=>cases c.1
    | fail _=>cases c.1
   obtain⟨q,a,rfl⟩:=Rq.zF l c.2;rw[Rq.KI g,bF,List.map_cons,List.map_nil,nM _ _ _ rfl rfl,bF];rfl
 . have f:e.uH=true->Rq.qh l=F:=fun i=>by
    cases f:Rq.qh l
    . rfl
    . exact absurd ⟨i,f⟩ c
   rw[Rq.Nv g f,mI _ _ (fun k=>by rw[Z4];exact f ((Bl e).1 k)),bF];rfl
theorem E9:∀l:List Rq.Ev,lI (l.map Rq.Ev.d)=Rq.jD l
 | []=>rfl
 | .body a::r=>by show a.length+lI (r.map Rq.Ev.d)=a.length+Rq.jD r;rw[E9 r]
 | .head _::r=>by show 0+lI (r.map Rq.Ev.d)=Rq.jD r;rw[E9 r];omega
 | .fin::r=>by show 0+lI (r.map Rq.Ev.d)=Rq.jD r;rw[E9 r];omega
 | .fail _::r=>by show 0+lI (r.map Rq.Ev.d)=Rq.jD r;rw[E9 r];omega
end Go.Proofs.YtjmndjmhjleabaaGreatDoor