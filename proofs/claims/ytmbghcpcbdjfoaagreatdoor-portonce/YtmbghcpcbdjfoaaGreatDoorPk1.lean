import Derived.Test.YtmbghcpcbdjfoaaGreatDoorAl
import Derived.Test.YtmbghcpcbdjfoaaGreatDoorAm
import Derived.WalkKit
import Derived.Laws.AppendOwnNone
import Derived.Maps.AppendAt
import Derived.Deep.Draws
open Go.Value renaming int->I,string->V,slice->Z
open Option renaming none->U,some->M
open Go renaming World->X
namespace Go.Proofs.YtmbghcpcbdjfoaaGreatDoor
open Go.RowKit
theorem bA (B:Nat)(w:X):Below B w w.drew:=⟨rfl,rfl,rfl,ak _,fun _ _=>rfl⟩
def bD (l:ae):List Value:=l.map fun b=>I .u8 (b.toNat:Int)
theorem dN (l:ae):(bD l).length=l.length:=by simp[bD]
theorem tT (a b:ae):bD (a++b)=bD a++bD b:=by simp[bD]
theorem wP (l:ae):∀u∈bD l,u.oneCell'=true:=by
 intro u a;obtain⟨b,_,rfl⟩:=jT.1 a;rfl
theorem lI (l:ae)(j:Nat)(h:j<l.length):(bD l)[j]? = M (I .u8 (l[j].toNat:Int)):=by
 simp[bD,h]
def ay (w:X)(ao:ai)(cap:Nat)(l:ae):Prop :=
 l.length<=cap∧(ao=U->cap=0)∧∀j (hj:j<l.length),∃a,ao=M a∧w.cell? (a.add j)=M (I .u8 (l[j].toNat:Int))
theorem ay.q {w:X}{a:Addr}{cap:Nat}{l:ae}(h:ay w (M a) cap l)(j:Nat)(b:j<l.length):w.cell? (a.add j)=M (I .u8 (l[j].toNat:Int)):=by grind [ay]
theorem ay.mq {w:X}{ao:ai}{cap:Nat}{l:ae}(h:ay w ao cap l)(b:0<l.length):∃a,ao=M a:=by
 obtain⟨a,e,_⟩:=h.2.2 0 b;exact⟨a,e⟩
theorem ay.d (w:X):ay w U 0 []:=⟨ak _,fun _=>rfl,fun j a=>by simp at a⟩
theorem ay.E {w:X}{cap:Nat}{l:ae}(h:ay w U cap l):l=[]∧cap=0:=by
 have a:=h.2.1 rfl;have b:=h.1;exact⟨gW (by omega),a⟩
theorem ay.j {w:X}{ao:ai}{cap:Nat}{l:ae}(h:ay w ao cap l)(c:0<l.length):∃b o,ao=M ⟨b,o,U⟩∧∀j (a:j<l.length),w.cell? ⟨b,o+j,U⟩=M (I .u8 (l[j].toNat:Int)):=by
 obtain⟨⟨b,o,d⟩,rfl,e⟩:=h.2.2 0 c;have f:d=U:=by simpa[Addr.add] using World.cell?_spot e
 subst f;refine⟨b,o,rfl,fun j a=>?_⟩;have:=h.q j a;rwa[ga] at this
theorem ay.ku {w w':X}{ao:ai}{cap:Nat}{l:ae}(h:ay w ao cap l)(b:∀a,ao=M a->∀v j,w.cell? (a.add j)=M v->w'.cell? (a.add j)=M v):ay w' ao cap l:=by grind [ay]
theorem oB (a:Addr)(j:Nat):(a.add j).block=a.block:=by unfold Addr.add;split <;> rfl
theorem ay.jN {w w':X}{ao:ai}{cap:Nat}{l:ae}{row:Option Nat}(h:ay w ao cap l)(b:w.grownBy w' row)(ha:∀a,ao=M a->M a.block≠row):ay w' ao cap l :=
 h.ku fun a e v j c=>b.cell c (by rw[oB];exact ha a e)
theorem ay.a {w w':X}{ao:ai}{cap:Nat}{l:ae}(h:ay w ao cap l)(c:Below w.heap.size w w'):ay w' ao cap l :=
 h.ku fun a _ v j b=>by rw[c.cell (bI w _ b)];exact b
theorem ay.f {w:X}{ao gQ:ai}{cap:Nat}{l:ae}(h:ay w ao cap l)(b c:Nat)(o:b<=c)(p:c<=l.length)
 (g:cap≠b->gQ=ao.map (·.add b)):ay w gQ (cap-b) ((l.drop b).take (c-b)):=by
 have q:=h.1;have d:((l.drop b).take (c-b)).length=c-b:=by rw[bP,bV];omega
 refine⟨by omega,fun i=>?_,fun j k=>?_⟩
 . by_cases e:cap=b
   . omega
   . have:=g e;rw[i] at this;have m:=Option.map_eq_none_iff.1 this.symm;have:=h.2.1 m;omega
 . rw[d] at k;obtain⟨a,e,n⟩:=h.2.2 (b+j) (by omega);have f:cap≠b:=by omega
   refine⟨a.add b,by rw[g f,e];rfl,?_⟩;rw[Addr.add_add,n];simp
theorem ay.G {w:X}{ao:ai}{cap:Nat}{l:ae}(h:ay w ao cap l)(n:Nat)(a:n<=l.length):ay w ao cap (l.take n):=by
 have:=h.f (gQ:=ao) 0 n (ax _) a (fun _=>by cases ao <;> simp[Addr.add]);simpa using this
theorem ay.r {P:Program}{w:World}{ao:ai}{cap:Nat}{l:ae}(h:ay w ao cap l)(src dst e:TypeId)(hs:P.underlying src=Option.some (.slice e))(he:P.underlying e=Option.some (.int .u8))(hd:P.underlying dst=Option.some .string):
 (convert src dst (.slice ao l.length cap)).run P w=.ok (.string ⟨l.toArray⟩) w:=by
 cases ao with
 | none =>
   obtain⟨rfl,rfl⟩:=h.E;rw[run_convert_bytes_string w src dst e none _ _ hs he hd];rfl
 | some a=>exact run_convert_bytes_back w src dst e a cap l hs he hd (fun j hj=>h.q j hj)
def bC (w:X)(base t:Nat)(ao:ai)(cap:Nat)(l:ae):Prop:=w.ownsRow base t 1 (Z ao l.length cap) l.length (bD l)
theorem bC.e (w:X)(a t:Nat):bC w a t U 0 []:=World.ownsRow_nil _ _ _ _
theorem bC.G {w:X}{a t:Nat}{v:Value}{l:ae}{n:Nat}(b:n=l.length)(h:w.ownsRow a t 1 v n (bD l)):∃ao cap,v=Z ao l.length cap∧bC w a t ao cap l:=by
 subst b;rcases h.2 with ⟨rfl,c⟩ | ⟨g,cap,d,rfl,_⟩
 . have e:l=[]:=gW c;subst e;exact⟨U,0,rfl,h⟩
 . exact⟨_,_,rfl,h⟩
theorem bC.a {w:X}{a t:Nat}{ao:ai}{cap:Nat}{l:ae}(h:bC w a t ao cap l):ay w ao cap l:=by
 rcases h.2 with ⟨e,f⟩ | ⟨g,d,i,e,o,p,k,q,r,s⟩
 . injection e with b m c;subst b;subst c;rw[gW f];exact ay.d w
 . injection e with b m c;subst b;subst c;refine⟨k,fun e=>by simp at e,fun j n=>⟨_,rfl,?_⟩⟩;exact World.ownsRow.cells h (g:=g) rfl j _ (lI l j n)
theorem bC.d {w:X}{b t:Nat}{ao:ai}{cap:Nat}{l:ae}(h:bC w b t ao cap l)(a:Addr)(e:ao=M a):b<=a.block∧a.block<w.heap.size:=by
 subst e;exact World.ownsRow.lt h a.block rfl
theorem bC.r {w:X}{a t:Nat}{ao:ai}{cap:Nat}{l:ae}(h:bC w a t ao cap l)(m:0<l.length):∃g,ao=M ⟨g,0,U⟩∧a<=g∧∀j (b:j<l.length),w.cell? ⟨g,j,U⟩=M (I .u8 (l[j].toNat:Int)):=by
 rcases h.2 with ⟨e,n⟩ | ⟨g,c,d,e,f,o,p,q,r,s⟩
 . omega
 . injection e with i u k;subst i;subst k;refine⟨g,rfl,f,fun j b=>?_⟩;have:=World.ownsRow.cells h (g:=g) rfl j _ (lI l j b);rwa[ga,dV] at this
theorem bC.y {w w':X}{b t:Nat}{ao:ai}{cap:Nat}{l:ae}{row:Option Nat}(h:bC w b t ao cap l)(c:w.grownBy w' row)(ha:∀a,ao=M a->M a.block≠row):bC w' b t ao cap l:=by
 refine World.ownsRow.kept h c ?_;cases ao with
 | none=>exact Or.inl rfl
 | some a=>exact Or.inr (ha a rfl)
theorem bC.below {w w':X}{b t:Nat}{ao:ai}{cap:Nat}{l:ae}{B:Nat}(h:bC w b t ao cap l)(f:Below B w w')(ha:∀a,ao=M a->a.block<B):bC w' b t ao cap l:=by
 refine⟨h.1,?_⟩;rcases h.2 with i | ⟨g,c,d,e,j,k,r⟩
 . exact Or.inl i
 . refine Or.inr ⟨g,c,d,e,j,?_,r⟩;injection e with m n o;rw[f.block g (ha _ m)];exact k
theorem bC.q {w:X}{b a t:Nat}{ao:ai}{cap:Nat}{l:ae}(h:bC w b t ao cap l)(i:a<=b):bC w a t ao cap l:=by
 refine⟨h.1,?_⟩;rcases h.2 with f | ⟨g,c,d,e,j,r⟩
 . exact Or.inl f
 . exact Or.inr ⟨g,c,d,e,by omega,r⟩
theorem bC.j {w:X}{a t:Nat}{ao:ai}{cap:Nat}{l:ae}(h:bC w a t ao cap l)(o:Obj):bC (w.alloc o) a t ao cap l:=World.ownsRow.alloc h o
theorem ay.jK {w:X}{ao:ai}{cap:Nat}{l:ae}(h:ay w ao cap l)(o:Obj):ay (w.alloc o) ao cap l:=h.jN (qv w o U) (fun a _=>by simp)
theorem ay.y (w:X)(c:UInt8)(t:Nat)(b:Nat×Nat):ay (w.alloc (.cells #[I .u8 (c.toNat:Int)] t b)) (M ⟨w.heap.size,0,U⟩) 1 [c]:=by
 refine⟨ak _,fun e=>by simp at e,fun j a=>⟨_,rfl,?_⟩⟩;have e:j=0:=by simp at a;exact a
 subst e;rw[ga,World.cell?_alloc_mark];rfl
theorem ay.oW (w:X)(s:ag)(cap t:Nat)(c:Nat×Nat)(a:s.size<=cap):ay (w.alloc (.cells (bytesRow s cap) t c)) (M ⟨w.heap.size,0,U⟩) cap s.data.toList:=by
 refine⟨by rw[cy];exact a,fun e=>by simp at e,fun j b=>⟨_,rfl,?_⟩⟩;rw[cy] at b;rw[ga,World.cell?_alloc_mark,dV,bytesRow_at s cap j b];simp
theorem zK {P:Program}(W:X)(s:ag)(a b e:TypeId)(d:P.underlying a=M .string)(hd:P.underlying b=M (.slice e))(f:P.underlying e=M (.int .u8)):
 ∃cap c,(convert a b (V s)).run P W=.ok (Z (M ⟨W.heap.size,0,U⟩) s.size cap) c∧Below W.heap.size W c∧c.heap.size=W.heap.size+1∧ay c (M ⟨W.heap.size,0,U⟩) cap s.data.toList:=by
 refine⟨_,_,run_bytes_of_string (P:=P) W a b e s d hd f,((bA _ W).alloc (ak _) _),by simp,ay.oW W.drew s _ _ _ (grownCap_ge W s.size 0 e)⟩
def au:ai->Option Nat
 | some a=>M a.block
 | none=>U
theorem dI (ao:ai)(n cap:Nat):(Value.slice ao n cap).ownBlock=au ao:=by cases ao <;> rfl
theorem oF {a b c:X}{row:Option Nat}(h:a.grownBy b row)(k:b.grownBy c row):a.grownBy c row :=
 ⟨k.os.trans h.os,k.tape.trans h.tape,k.output.trans h.output,ce h.size k.size,fun i e d=>(k.block i (ml e h.size) d).trans (h.block i e d)⟩
theorem CT {a b:X}(row:Option Nat)(h:Below a.heap.size a b):a.grownBy b row:=⟨h.os,h.tape,h.output,h.size,fun i c _=>h.block i c⟩
theorem wM (w:X)(row:Option Nat):w.grownBy w.drew row:=⟨rfl,rfl,rfl,ak _,fun _ _ _=>rfl⟩
theorem tR {P:Program}{w:X}{q:Array Oper}{rest:List Oper}{o:Oper}{a:Act}{aaf:Exit->Act->X->Prop}(r:o.guard=U)(s x:Operand)(t:TypeId)
 (G:o.op=.call { callee:=.builtin .append,args:=#[s,x],argTypes:=#[t,t] })
 (b:Nat) (e:TypeId) (i:TypeInfo) (H:P.underlying t=M (.slice e)) (L:P.info? e=M i) (hz:i.zero=M (I .u8 0)) (z:i.size=1) (B:i.bytes=1)
 {ao:ai} {cap n:Nat} {l:ae} (N:a.eval s=Z ao n cap) (hn:l.length=n) (d:bC w b e ao cap l)
 {C:ai} {f y:Nat} {l2:ae} (S:a.eval x=Z C y f) (D:l2.length=y) (k:ay w C f l2)
 (T:n+y<=140737488355328) (m:b<=w.heap.size)
 (h:∀gQ c w',bC w' b e gQ c (l++l2)->w.grownBy w' (au ao)->(au gQ=au ao∨au gQ=M w.heap.size)->wpList P q aaf rest (a.put o.dst (Z gQ (n+y) c)) w'):wpList P q aaf (o::rest) a w:=by
 subst hn;subst D;cases C with
 | none =>
   obtain⟨rfl,rfl⟩:=k.E;refine wpList_append_own_none r s x t G b e i 1 H L _ l.length (bD l) N d S ?_;have:=h ao cap w (by rw[eN];exact d) ⟨rfl,rfl,rfl,ak _,fun _ _ _=>rfl⟩ (Or.inl rfl);simpa using this
 | some ad =>
   refine wpList_append_own_at w r s x t G b e i (I .u8 0) 1 1 H L hz z B rfl (by decide) _ l.length (bD l) N d ad l2.length f (bD l2) S (by rw[dN];omega) (fun j u v=>?_) (wP l2) (by unfold maxLen;omega) (by omega) m ?_
   . have W:j<l2.length:=by
      have:=(fB.1 v).1;rwa[dN] at this
     rw[lI l2 j W] at v;injection v with v;subst v;exact k.q j W
   . intro v' w' g hg _ p;rw[<-tT] at g;obtain⟨gQ,c,rfl,hB⟩:=bC.G (by simp) g;rw[dI] at hg p;rw[dI] at p;have:=h gQ c w' hB hg p;simpa using this
theorem nQ {P:Program}{w:X}{g:Array Oper}{rest:List Oper}{o:Oper}{a:Act}{aaf:Exit->Act->X->Prop}(q:o.guard=U)(s x:Operand)(t:TypeId)
 (z:o.op=.call { callee:=.builtin .append,args:=#[s,x],argTypes:=#[t,t] })
 (b:Nat) (e:TypeId) (i:TypeInfo) (B:P.underlying t=M (.slice e)) (C:P.info? e=M i) (D:i.zero=M (I .u8 0)) (r:i.size=1) (u:i.bytes=1)
 {ao:ai} {cap n:Nat} {l:ae} (G:a.eval s=Z ao n cap) (H:l.length=n) (j:bC w b e ao cap l)
 {y:ai} {d p:Nat} {l2:ae} (L:a.eval x=Z y p d) (v:l2.length=p) (k:ay w y d l2)
 (m:n+p<=140737488355328) (f:b<=w.heap.size)
 (h:∀gQ c w',bC w' b e gQ c (l++l2)->w.grownBy w' (au ao)->wpList P g aaf rest (a.put o.dst (Z gQ (n+p) c)) w'):wpList P g aaf (o::rest) a w :=
 tR q s x t z b e i B C D r u G H j L v k m f (fun gQ c w' N S _=>h gQ c w' N S)
def bx (w:X)(ao:ai)(cap n:Nat)(xs:List Value):Prop :=
 n<=cap∧(ao=U->cap=0)∧∀j u,xs[j]? = M u->∃a,ao=M a∧w.cell? (a.add j)=M u
theorem bx.j {w:X}{a:Addr}{cap n:Nat}{xs:List Value}(h:bx w (M a) cap n xs){j:Nat}{u:Value}(b:xs[j]? = M u):w.cell? (a.add j)=M u:=by grind [bx]
theorem bx.e {w:X}{ao:ai}{cap n:Nat}{xs:List Value}(h:bx w ao cap n xs)(a:0<xs.length):∃b o,ao=M ⟨b,o,U⟩∧∀j u,xs[j]? = M u->w.cell? ⟨b,o+j,U⟩=M u:=by
 obtain⟨⟨b,o,c⟩,rfl,d⟩:=h.2.2 0 xs[0] (gU a);have e:c=U:=by simpa[Addr.add] using World.cell?_spot d
 subst e;refine⟨b,o,rfl,fun j u f=>?_⟩;have:=h.j f;rwa[ga] at this
theorem bx.f (w:X):bx w U 0 0 []:=⟨ak _,fun _=>rfl,fun j u a=>by simp at a⟩
theorem bx.r {w w':X}{ao:ai}{cap n:Nat}{xs:List Value}(h:bx w ao cap n xs)(b:∀a,ao=M a->∀v j,w.cell? (a.add j)=M v->w'.cell? (a.add j)=M v):bx w' ao cap n xs:=by grind [bx]
theorem bx.a {w w':X}{ao:ai}{cap n:Nat}{xs:List Value}(h:bx w ao cap n xs)(c:Below w.heap.size w w'):bx w' ao cap n xs :=
 h.r fun a _ v j b=>by rw[c.cell (bI w _ b)];exact b
theorem bx.jD {w w':X}{ao:ai}{cap n:Nat}{xs:List Value}{row:Option Nat}(h:bx w ao cap n xs)(b:w.grownBy w' row)(ha:∀a,ao=M a->M a.block≠row):bx w' ao cap n xs :=
 h.r fun a e v j c=>b.cell c (by rw[oB];exact ha a e)
theorem bx.y {w:X}{ao:ai}{cap n:Nat}{xs:List Value}(h:bx w ao cap n xs)(o:Obj):bx (w.alloc o) ao cap n xs:=h.jD (qv w o U) (fun a _=>by simp)
theorem bx.d (w:X)(a:Array Value)(n t:Nat)(b:Nat×Nat):bx (w.alloc (.cells a t b)) (M ⟨w.heap.size,0,U⟩) n n a.toList:=by
 refine⟨ak _,fun e=>by simp at e,fun j u c=>⟨_,rfl,?_⟩⟩;rw[ga,World.cell?_alloc_mark,dV];simpa using c
def aG (w:X)(base t k:Nat)(ao:ai)(cap n:Nat)(xs:List Value):Prop:=w.ownsRow base t k (Z ao n cap) n xs
theorem aG.f (w:X)(a t k:Nat):aG w a t k U 0 0 []:=World.ownsRow_nil _ _ _ _
theorem aG.jD {w:X}{a t k n:Nat}{v:Value}{xs:List Value}(h:w.ownsRow a t k v n xs):∃ao cap,v=Z ao n cap∧aG w a t k ao cap n xs:=by
 rcases h.2 with ⟨rfl,b⟩ | ⟨g,cap,c,rfl,_⟩
 . subst b;exact⟨U,0,rfl,h⟩
 . exact⟨_,_,rfl,h⟩
theorem aG.a {w:X}{a t k:Nat}{ao:ai}{cap n:Nat}{xs:List Value}(h:aG w a t k ao cap n xs):bx w ao cap n xs:=by
 have d:=h.1;rcases h.2 with ⟨e,i⟩ | ⟨g,f,l,e,q,r,m,s,v,x⟩
 . injection e with b o c;subst b;subst c;subst i;rw[pj] at d;rw[gW d];exact bx.f w
 . injection e with b o c;subst b;subst c;exact⟨m,fun e=>by simp at e,fun j u p=>⟨_,rfl,World.ownsRow.cells h (g:=g) rfl j u p⟩⟩
theorem aG.d {w:X}{b t k:Nat}{ao:ai}{cap n:Nat}{xs:List Value}(h:aG w b t k ao cap n xs)(a:Addr)(e:ao=M a):b<=a.block∧a.block<w.heap.size:=by
 subst e;exact World.ownsRow.lt h a.block rfl
theorem aG.below {w w':X}{b t k:Nat}{ao:ai}{cap n:Nat}{xs:List Value}{B:Nat}(h:aG w b t k ao cap n xs)(f:Below B w w')(ha:∀a,ao=M a->a.block<B):aG w' b t k ao cap n xs:=by
 refine⟨h.1,?_⟩;rcases h.2 with i | ⟨g,c,d,e,j,l,r⟩
 . exact Or.inl i
 . refine Or.inr ⟨g,c,d,e,j,?_,r⟩;injection e with m o p;rw[f.block g (ha _ m)];exact l
theorem aG.r {w w':X}{b t k:Nat}{ao:ai}{cap n:Nat}{xs:List Value}(h:aG w b t k ao cap n xs)(c:Below w.heap.size w w'):aG w' b t k ao cap n xs:=h.below c (fun a e=>(h.d a e).2)
theorem bC.B {w w':X}{b t:Nat}{ao:ai}{cap:Nat}{l:ae}(h:bC w b t ao cap l)(c:Below w.heap.size w w'):bC w' b t ao cap l:=h.below c (fun a e=>(h.d a e).2)
theorem aG.j {w:X}{b a t k:Nat}{ao:ai}{cap n:Nat}{xs:List Value}(h:aG w b t k ao cap n xs)(i:a<=b):aG w a t k ao cap n xs:=by
 refine⟨h.1,?_⟩;rcases h.2 with f | ⟨g,c,d,e,j,r⟩
 . exact Or.inl f
 . exact Or.inr ⟨g,c,d,e,by omega,r⟩
theorem aG.q {w:X}{a t k:Nat}{ao:ai}{cap n:Nat}{xs:List Value}(h:aG w a t k ao cap n xs)(o:Obj):aG (w.alloc o) a t k ao cap n xs:=World.ownsRow.alloc h o
theorem fE {P:Program}{w:X}{v:Array Oper}{rest:List Oper}{o:Oper}{a:Act}{aaf:Exit->Act->X->Prop}(y:o.guard=U)(s x:Operand)(t:TypeId)
 (N:o.op=.call { callee:=.builtin .append,args:=#[s,x],argTypes:=#[t,t] })
 (b:Nat) (e:TypeId) (i:TypeInfo) (z:Value) (k bytes:Nat) (S:P.underlying t=M (.slice e)) (T:P.info? e=M i) (hz:i.zero=M z) (B:i.size=k) (C:i.bytes=bytes) (D:z.cells.size=k) (hk:0<k)
 {ao:ai} {cap n:Nat} {xs:List Value} (W:a.eval s=Z ao n cap) (d:aG w b e k ao cap n xs)
 {G:ai} {f l:Nat} {r:List Value} (hx:a.eval x=Z G l f) (g:bx w G f l r) (H:r.length=l*k) (h1:∀u∈r,u.oneCell'=true)
 (hlen:n+l<=9223372036854775807) (L:(n+l)*bytes<=140737488355328) (m:b<=w.heap.size)
 (h:∀gQ c w',aG w' b e k gQ c (n+l) (xs++r)->w.grownBy w' (au ao)->(au gQ=au ao∨au gQ=M w.heap.size)->wpList P v aaf rest (a.put o.dst (Z gQ (n+l) c)) w'):wpList P v aaf (o::rest) a w:=by
 cases G with
 | none =>
   have hc:=g.2.1 rfl;have hn:=g.1;obtain rfl:l=0:=by omega
   subst hc;rw[pj] at H;obtain rfl:r=[]:=gW H;refine wpList_append_own_none y s x t N b e i k S T _ n xs W d hx ?_;have:=h ao cap w (by rw[eN];exact d) ⟨rfl,rfl,rfl,ak _,fun _ _ _=>rfl⟩ (Or.inl rfl);simpa using this
 | some ad =>
   refine wpList_append_own_at w y s x t N b e i z k bytes S T hz B C D hk _ n xs W d ad l f r hx H (fun j u hu=>g.j hu) h1 (by unfold maxLen;omega) L m ?_;intro v' w' p hg _ q;obtain⟨gQ,c,rfl,hB⟩:=aG.jD p;rw[dI] at hg q;rw[dI] at q;exact h gQ c w' hB hg q
def fH (l:List ag):List Value:=l.map Value.string
theorem yU (l:List ag):(fH l).length=l.length:=by simp[fH]
theorem Cv (a b:List ag):fH (a++b)=fH a++fH b:=by simp[fH]
theorem uz (l:List ag)(j:Nat)(h:j<l.length):(fH l)[j]? = M (V l[j]):=by simp[fH,h]
def aI (l:aC):List Value:=l.flatMap fun p=>[V p.1,V p.2]
theorem rI (l:aC):(aI l).length=l.length*2:=by
 induction l with
 | nil=>rfl
 | cons p t a=>simp only[aI,oA,aF,bO,lD] at a ⊢;omega
theorem wI (a b:aC):aI (a++b)=aI a++aI b:=by simp[aI]
theorem EL (l:aC):∀u∈aI l,u.oneCell'=true:=by
 intro u b;obtain⟨p,_,a⟩:=List.mem_flatMap.1 b;simp at a;rcases a with rfl | rfl <;> rfl
theorem mU (l:aC):∀j (h:j<l.length),(aI l)[j*2]? = M (V l[j].1)∧(aI l)[j*2+1]? = M (V l[j].2):=by
 induction l with
 | nil=>intro j h;simp at h
 | cons p t a =>
   intro j h;cases j with
   | zero=>exact⟨rfl,rfl⟩
   | succ j =>
     have:=a j (by simpa using h);have e:∀q,(aI (p::t))[(q+2)]? = (aI t)[q]?:=fun q=>rfl;rw[show(j+1)*2=j*2+2 by omega,show j*2+2+1=(j*2+1)+2 by omega,e,e];simpa using this
structure az where
 b:Int
 i:ag
 j:ag
 m:Int
 e:aC
 l:Int
 a:ae
 g:ag
 f:ag
 h:ag
 c:ae
 k:Int
structure cJ where
 e:ai
 f:Nat
 a:ai
 b:Nat
 d:ai
 c:Nat
def az.d (e:az)(s:cJ):List Value:=[I .i64 e.b,V e.i,V e.j,I .i64 e.m,Z s.e e.e.length s.f,I .i64 e.l,Z s.a e.a.length s.b,V e.g,V e.f,V e.h,Z s.d e.c.length s.c,I .i64 e.k]
structure Cg (w:X)(b o:Nat)(e:az)(s:cJ):Prop where
 a:∀j u,(e.d s)[j]? = M u->w.cell? ⟨b,o+j,U⟩=M u
 d:bx w s.e s.f e.e.length (aI e.e)
 c:ay w s.a s.b e.a
 f:ay w s.d s.c e.c
def sJ (w:X)(ao:ai)(cap:Nat)(es:List az):Prop :=
 es.length<=cap∧(ao=U->cap=0)∧∀j (hj:j<es.length),∃b o s,ao=M ⟨b,o,U⟩∧Cg w b (o+j*12) es[j] s
theorem sJ.d (w:X):sJ w U 0 []:=⟨ak _,fun _=>rfl,fun j a=>by simp at a⟩
theorem sJ.a {w:X}{ao:ai}{cap:Nat}{es:List az}(h:sJ w ao cap es)(c:0<es.length):∃b o,ao=M ⟨b,o,U⟩∧∀j (a:j<es.length),∃s,Cg w b (o+j*12) es[j] s:=by
 obtain⟨b,o,_,rfl,_⟩:=h.2.2 0 c;refine⟨b,o,rfl,fun j a=>?_⟩;obtain⟨i,k,s,e,d⟩:=h.2.2 j a;injection e with e;injection e with f g;subst f;subst g;exact⟨s,d⟩
def dW (b:ae):az:=⟨2,⟨#[]⟩,⟨#[]⟩,0,[],0,b,⟨#[]⟩,⟨#[]⟩,⟨#[]⟩,[],0⟩
def jF (l:List az):Bool :=
 match l.getLast? with
 | some x=>decide (x.b=2)
 | none=>false
def ui (l:List az):ae :=
 match l.getLast? with
 | some x=>x.a
 | none=>[]
def iN (l:List az)(e:az):List az:=if e.b=2∧jF l=true then l.dropLast++[dW (ui l++e.a)] else l++[e]
def gK (l:List az):List az:=l.foldl iN []
def dx:List az->Nat
 | []=>0
 | e::r=>e.a.length+dx r
theorem wN (l:List az)(e:az):jF (l++[e])=decide (e.b=2):=by unfold jF;rw[tH];simp
theorem Co (l:List az)(e:az):ui (l++[e])=e.a:=by unfold ui;rw[tH];simp
theorem yV {l:List az}(h:jF l=true):∃q x,l=q++[x]∧x.b=2:=by
 rcases mQ l with rfl | ⟨q,x,rfl⟩
 . cases h
 . rw[lA,wN] at h;exact⟨q,x,by rw[lA],tG h⟩
theorem uc (q:List az)(x e:az)(a:x.b=2)(b:e.b=2):iN (q++[x]) e=q++[dW (x.a++e.a)]:=by grind [iN,dW,wN,Co]
theorem rK (l:List az)(e:az)(h:e.b=2->jF l=false):iN l e=l++[e]:=by grind [jF,iN]
theorem Dp (l:List az)(e:az):gK (l++[e])=iN (gK l) e:=by unfold gK;rw[rF];rfl
theorem ua:∀a b:List az,dx (a++b)=dx a+dx b:=by intro l;induction l <;> grind [dx]
theorem SH:∀(l:List az) (e:az),e∈l->e.a.length<=dx l:=by intro l;induction l <;> grind [dx]
theorem LV (l:List az):(ui l).length<=dx l:=by
 rcases mQ l with rfl | ⟨q,x,rfl⟩
 . exact ax _
 . rw[lA,Co];exact SH _ x (by simp)
theorem SI (l:List az)(e:az):dx (iN l e)=dx l+e.a.length:=by
 by_cases h:e.b=2∧jF l=true
 . obtain⟨q,x,rfl,a⟩:=yV h.2;rw[uc q x e a h.1,ua,ua];simp[dx,dW];omega
 . rw[rK l e (fun k=>by
    cases b:jF l
    . rfl
    . exact absurd ⟨k,b⟩ h),ua]
   simp[dx]
theorem EM (l:List az):dx (gK l)=dx l:=by
 have:∀(m:List az) (o:List az),dx (m.foldl iN o)=dx o+dx m:=by
  intro m;induction m with
  | nil=>intro o;simp[dx]
  | cons e r a=>intro o;rw[pp,a,SI,dx];omega
 have h:=this l [];simpa[gK,dx] using h
theorem MB (l:List az)(e:az):(iN l e).length<=l.length+1:=by grind [iN]
theorem Cr (l:List az):(gK l).length<=l.length:=by
 have:∀(m:List az) (o:List az),(m.foldl iN o).length<=o.length+m.length:=by
  intro m;induction m with
  | nil=>intro o;simp
  | cons e r a=>intro o;rw[pp];have b:=a (iN o e);have c:=MB o e;simp only[bO];omega
 have h:=this l [];simpa[gK] using h
theorem Q2 {p:az->Prop}(f:∀b,p (dW b))(l:List az)(h:∀e∈l,p e):∀e∈gK l,p e:=by
 have:∀(m:List az) (o:List az),(∀e∈o,p e)->(∀e∈m,p e)->∀e∈m.foldl iN o,p e:=by
  intro m;induction m with
  | nil=>intro o c _ e a;exact c e a
  | cons x r g =>
    intro o c d;rw[pp];refine g (iN o x) (fun e a=>?_) (fun e a=>d e (iW _ a));unfold iN at a;split at a
    . rcases dm.1 a with a | a
      . exact c e (List.dropLast_subset o a)
      . rw[cD.1 a];exact f _
    . rcases dm.1 a with a | a
      . exact c e a
      . rw[cD.1 a];exact d x (mR ..)
 exact this l [] (fun e a=>by cases a) h
