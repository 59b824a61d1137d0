/- Small texts, one behind the other: Mem, MemV, MemE, JnA, MemQ, MemL. -/
import Derived.Test.YtjmndjmhjleabaaGreatDoorAl
import Derived.Test.YtjmndjmhjleabaaGreatDoorAm
import Derived.WalkKit
import Derived.Laws.AppendOwnNone
import Derived.Maps.AppendAt
import Derived.Deep.Draws
open Go.Value renaming int->I,string->V,slice->Z
open Option renaming none->U,some->M
open Go renaming World->X
namespace Go.Proofs.YtjmndjmhjleabaaGreatDoor
open Go.RowKit
theorem gP (B:Nat)(w:X):Below B w w.drew:=⟨rfl,rfl,rfl,aL _,fun _ _=>rfl⟩
def ji (l:au):List Value:=l.map fun b=>I .u8 (b.toNat:Int)
theorem ig (l:au):(ji l).length=l.length:=by simp[ji]
theorem qz (a b:au):ji (a++b)=ji a++ji b:=by simp[ji]
theorem wY (l:au):∀u∈ji l,u.oneCell'=true:=by
 intro u a;obtain⟨b,_,rfl⟩:=aM.1 a;rfl
theorem lQ (l:au)(j:Nat)(h:j<l.length):(ji l)[j]? = M (I .u8 (l[j].toNat:Int)):=by
 simp[ji,h]
def iG (w:X)(ao:aj)(cap:Nat)(l:au):Prop :=
 l.length<=cap∧(ao=U->cap=0)∧∀j (hj:j<l.length),∃a,ao=M a∧w.cell? (a.add j)=M (I .u8 (l[j].toNat:Int))
theorem iG.cell {w:X}{a:Addr}{cap:Nat}{l:au}(h:iG w (M a) cap l)(j:Nat)(b:j<l.length):w.cell? (a.add j)=M (I .u8 (l[j].toNat:Int)):=by
 obtain⟨d,e,c⟩:=h.2.2 j b;injection e with e;subst e;exact c
theorem iG.some {w:X}{ao:aj}{cap:Nat}{l:au}(h:iG w ao cap l)(b:0<l.length):∃a,ao=M a:=by
 obtain⟨a,e,_⟩:=h.2.2 0 b;exact⟨a,e⟩
theorem iG.nil (w:X):iG w U 0 []:=⟨aL _,fun _=>rfl,fun j a=>by simp at a⟩
theorem iG.ru {w:X}{cap:Nat}{l:au}(h:iG w U cap l):l=[]∧cap=0:=by
 have a:=h.2.1 rfl;have b:=h.1;exact⟨dn (by omega),a⟩
theorem iG.lit {w:X}{ao:aj}{cap:Nat}{l:au}(h:iG w ao cap l)(c:0<l.length):∃b o,ao=M ⟨b,o,U⟩∧∀j (a:j<l.length),w.cell? ⟨b,o+j,U⟩=M (I .u8 (l[j].toNat:Int)):=by
 obtain⟨⟨b,o,d⟩,rfl,e⟩:=h.2.2 0 c;have f:d=U:=by simpa[Addr.add] using World.cell?_spot e
 subst f;refine⟨b,o,rfl,fun j a=>?_⟩;have:=h.cell j a;rwa[gH] at this
theorem iG.move {w w':X}{ao:aj}{cap:Nat}{l:au}(h:iG w ao cap l)(b:∀a,ao=M a->∀v j,w.cell? (a.add j)=M v->w'.cell? (a.add j)=M v):iG w' ao cap l:=by
 refine⟨h.1,h.2.1,fun j c=>?_⟩;obtain⟨a,e,d⟩:=h.2.2 j c;exact⟨a,e,b a e _ j d⟩
theorem add_block (a:Addr)(j:Nat):(a.add j).block=a.block:=by unfold Addr.add;split <;> rfl
theorem iG.grown {w w':X}{ao:aj}{cap:Nat}{l:au}{row:Option Nat}(h:iG w ao cap l)(b:w.grownBy w' row)(ha:∀a,ao=M a->M a.block≠row):iG w' ao cap l :=
 h.move fun a e v j c=>b.cell c (by rw[add_block];exact ha a e)
theorem iG.stay {w w':X}{ao:aj}{cap:Nat}{l:au}(h:iG w ao cap l)(c:Below w.heap.size w w'):iG w' ao cap l :=
 h.move fun a _ v j b=>by rw[c.cell (fZ w _ b)];exact b
theorem iG.cut {w:X}{ao gV:aj}{cap:Nat}{l:au}(h:iG w ao cap l)(b c:Nat)(o:b<=c)(p:c<=l.length)
 (g:cap≠b->gV=ao.map (·.add b)):iG w gV (cap-b) ((l.drop b).take (c-b)):=by
 have q:=h.1;have d:((l.drop b).take (c-b)).length=c-b:=by rw[bX,bU];omega
 refine⟨by omega,fun i=>?_,fun j k=>?_⟩
 . by_cases e:cap=b
   . omega
   . have:=g e;rw[i] at this;have m:ao=U:=Option.map_eq_none_iff.1 this.symm;have:=h.2.1 m;omega
 . rw[d] at k;obtain⟨a,e,n⟩:=h.2.2 (b+j) (by omega);have f:cap≠b:=by omega
   refine⟨a.add b,by rw[g f,e];rfl,?_⟩;rw[Addr.add_add,n];simp
theorem iG.drewN {w:X}{ao:aj}{cap:Nat}{l:au}(h:iG w ao cap l)(n:Nat):iG (w.drewN n) ao cap l :=
 h.move (fun a _ v j b=>by rw[World.cell?_drewN];exact b)
theorem iG.first {w:X}{ao:aj}{cap:Nat}{l:au}(h:iG w ao cap l)(n:Nat)(a:n<=l.length):iG w ao cap (l.take n):=by
 have:=h.cut (gV:=ao) 0 n (ay _) a (fun _=>by cases ao <;> simp[Addr.add]);simpa using this
theorem iG.str {P:Program}{w:World}{ao:aj}{cap:Nat}{l:au}(h:iG w ao cap l)(src dst e:TypeId)(hs:P.underlying src=Option.some (.slice e))(he:P.underlying e=Option.some (.int .u8))(hd:P.underlying dst=Option.some .string):
 (convert src dst (.slice ao l.length cap)).run P w=.ok (.string ⟨l.toArray⟩) w:=by
 cases ao with
 | none =>
   obtain⟨rfl,rfl⟩:=h.ru;rw[run_convert_bytes_string w src dst e none _ _ hs he hd];rfl
 | some a=>exact run_convert_bytes_back w src dst e a cap l hs he hd (fun j hj=>h.cell j hj)
def iD (w:X)(base t:Nat)(ao:aj)(cap:Nat)(l:au):Prop:=w.ownsRow base t 1 (Z ao l.length cap) l.length (ji l)
theorem iD.nil (w:X)(a t:Nat):iD w a t U 0 []:=World.ownsRow_nil _ _ _ _
theorem iD.of {w:X}{a t:Nat}{v:Value}{l:au}{n:Nat}(b:n=l.length)(h:w.ownsRow a t 1 v n (ji l)):∃ao cap,v=Z ao l.length cap∧iD w a t ao cap l:=by
 subst b;rcases h.2 with ⟨rfl,c⟩ | ⟨g,cap,d,rfl,_⟩
 . have e:l=[]:=dn c;subst e;exact⟨U,0,rfl,h⟩
 . exact⟨_,_,rfl,h⟩
theorem iD.wZ {w:X}{a t:Nat}{ao:aj}{cap:Nat}{l:au}(h:iD w a t ao cap l):iG w ao cap l:=by
 rcases h.2 with ⟨e,f⟩ | ⟨g,d,i,e,o,p,k,q,r,s⟩
 . injection e with b m c;subst b;subst c;rw[dn f];exact iG.nil w
 . injection e with b m c;subst b;subst c;refine⟨k,fun e=>by simp at e,fun j n=>⟨_,rfl,?_⟩⟩;exact World.ownsRow.cells h (g:=g) rfl j _ (lQ l j n)
theorem iD.block {w:X}{b t:Nat}{ao:aj}{cap:Nat}{l:au}(h:iD w b t ao cap l)(a:Addr)(e:ao=M a):b<=a.block∧a.block<w.heap.size:=by
 subst e;exact World.ownsRow.lt h a.block rfl
theorem iD.head {w:X}{a t:Nat}{ao:aj}{cap:Nat}{l:au}(h:iD w a t ao cap l)(m:0<l.length):∃g,ao=M ⟨g,0,U⟩∧a<=g∧∀j (b:j<l.length),w.cell? ⟨g,j,U⟩=M (I .u8 (l[j].toNat:Int)):=by
 rcases h.2 with ⟨e,n⟩ | ⟨g,c,d,e,f,o,p,q,r,s⟩
 . omega
 . injection e with i u k;subst i;subst k;refine⟨g,rfl,f,fun j b=>?_⟩;have:=World.ownsRow.cells h (g:=g) rfl j _ (lQ l j b);rwa[gH,aZ] at this
theorem iD.kept {w w':X}{b t:Nat}{ao:aj}{cap:Nat}{l:au}{row:Option Nat}(h:iD w b t ao cap l)(c:w.grownBy w' row)(ha:∀a,ao=M a->M a.block≠row):iD w' b t ao cap l:=by
 refine World.ownsRow.kept h c ?_;cases ao with
 | none=>exact Or.inl rfl
 | some a=>exact Or.inr (ha a rfl)
theorem iD.below {w w':X}{b t:Nat}{ao:aj}{cap:Nat}{l:au}{B:Nat}(h:iD w b t ao cap l)(f:Below B w w')(ha:∀a,ao=M a->a.block<B):iD w' b t ao cap l:=by
 refine⟨h.1,?_⟩;rcases h.2 with i | ⟨g,c,d,e,j,k,r⟩
 . exact Or.inl i
 . refine Or.inr ⟨g,c,d,e,j,?_,r⟩;injection e with m n o;rw[f.block g (ha _ m)];exact k
theorem iD.mono {w:X}{b a t:Nat}{ao:aj}{cap:Nat}{l:au}(h:iD w b t ao cap l)(i:a<=b):iD w a t ao cap l:=by
 refine⟨h.1,?_⟩;rcases h.2 with f | ⟨g,c,d,e,j,r⟩
 . exact Or.inl f
 . exact Or.inr ⟨g,c,d,e,by omega,r⟩
theorem iD.alloc {w:X}{a t:Nat}{ao:aj}{cap:Nat}{l:au}(h:iD w a t ao cap l)(o:Obj):iD (w.alloc o) a t ao cap l:=World.ownsRow.alloc h o
theorem iG.alloc {w:X}{ao:aj}{cap:Nat}{l:au}(h:iG w ao cap l)(o:Obj):iG (w.alloc o) ao cap l:=h.grown (gy w o U) (fun a _=>by simp)
theorem iG.one (w:X)(c:UInt8)(t:Nat)(b:Nat×Nat):iG (w.alloc (.cells #[I .u8 (c.toNat:Int)] t b)) (M ⟨w.heap.size,0,U⟩) 1 [c]:=by
 refine⟨aL _,fun e=>by simp at e,fun j a=>⟨_,rfl,?_⟩⟩;have e:j=0:=by simp at a;exact a
 subst e;rw[gH,World.cell?_alloc_mark];rfl
theorem iG.ofRow (w:X)(s:av)(cap t:Nat)(c:Nat×Nat)(a:s.size<=cap):iG (w.alloc (.cells (bytesRow s cap) t c)) (M ⟨w.heap.size,0,U⟩) cap s.data.toList:=by
 refine⟨by rw[aN];exact a,fun e=>by simp at e,fun j b=>⟨_,rfl,?_⟩⟩;rw[aN] at b;rw[gH,World.cell?_alloc_mark,aZ,bytesRow_at s cap j b];simp
theorem zk {P:Program}(W:X)(s:av)(a b e:TypeId)(d:P.underlying a=M .string)(hd:P.underlying b=M (.slice e))(f:P.underlying e=M (.int .u8)):
 ∃cap c,(convert a b (V s)).run P W=.ok (Z (M ⟨W.heap.size,0,U⟩) s.size cap) c∧Below W.heap.size W c∧c.heap.size=W.heap.size+1∧iG c (M ⟨W.heap.size,0,U⟩) cap s.data.toList:=by
 refine⟨_,_,run_bytes_of_string (P:=P) W a b e s d hd f,((gP _ W).alloc (aL _) _),by simp,iG.ofRow W.drew s _ _ _ (grownCap_ge W s.size 0 e)⟩
def gK:aj->Option Nat
 | some a=>M a.block
 | none=>U
theorem gN (ao:aj)(n cap:Nat):(Value.slice ao n cap).ownBlock=gK ao:=by cases ao <;> rfl
theorem jV {a b c:X}{row:Option Nat}(h:a.grownBy b row)(k:b.grownBy c row):a.grownBy c row :=
 ⟨k.os.trans h.os,k.tape.trans h.tape,k.output.trans h.output,dF h.size k.size,fun i e d=>(k.block i (cu e h.size) d).trans (h.block i e d)⟩
theorem Bu {a b:X}(row:Option Nat)(h:Below a.heap.size a b):a.grownBy b row:=⟨h.os,h.tape,h.output,h.size,fun i c _=>h.block i c⟩
theorem rz (w:X)(row:Option Nat):w.grownBy w.drew row:=⟨rfl,rfl,rfl,aL _,fun _ _ _=>rfl⟩
theorem iI {P:Program}{w:X}{q:Array Oper}{rest:List Oper}{o:Oper}{a:Act}{G:Exit->Act->X->Prop}(r:o.guard=U)(s x:Operand)(t:TypeId)
 (H:o.op=.call { callee:=.builtin .append,args:=#[s,x],argTypes:=#[t,t] })
 (b:Nat) (e:TypeId) (i:TypeInfo) (L:P.underlying t=M (.slice e)) (N:P.info? e=M i) (hz:i.zero=M (I .u8 0)) (z:i.size=1) (B:i.bytes=1)
 {ao:aj} {cap n:Nat} {l:au} (O:a.eval s=Z ao n cap) (hn:l.length=n) (d:iD w b e ao cap l)
 {C:aj} {f y:Nat} {l2:au} (S:a.eval x=Z C y f) (D:l2.length=y) (k:iG w C f l2)
 (T:n+y<=140737488355328) (m:b<=w.heap.size)
 (h:∀gV c w',iD w' b e gV c (l++l2)->w.grownBy w' (gK ao)->(gK gV=gK ao∨gK gV=M w.heap.size)->wpList P q G rest (a.put o.dst (Z gV (n+y) c)) w'):wpList P q G (o::rest) a w:=by
 subst hn;subst D;cases C with
 | none =>
   obtain⟨rfl,rfl⟩:=k.ru;refine wpList_append_own_none r s x t H b e i 1 L N _ l.length (ji l) O d S ?_;have:=h ao cap w (by rw[bV];exact d) ⟨rfl,rfl,rfl,aL _,fun _ _ _=>rfl⟩ (Or.inl rfl);simpa using this
 | some ad =>
   refine wpList_append_own_at w r s x t H b e i (I .u8 0) 1 1 L N hz z B rfl (by decide) _ l.length (ji l) O d ad l2.length f (ji l2) S (by rw[ig];omega) (fun j u v=>?_) (wY l2) (by unfold maxLen;omega) (by omega) m ?_
   . have W:j<l2.length:=by
      have:=(aP.1 v).1;rwa[ig] at this
     rw[lQ l2 j W] at v;injection v with v;subst v;exact k.cell j W
   . intro v' w' g hg _ p;rw[<-qz] at g;obtain⟨gV,c,rfl,hB⟩:=iD.of (by simp) g;rw[gN] at hg p;rw[gN] at p;have:=h gV c w' hB hg p;simpa using this
theorem iX {P:Program}{w:X}{g:Array Oper}{rest:List Oper}{o:Oper}{a:Act}{y:Exit->Act->X->Prop}(q:o.guard=U)(s x:Operand)(t:TypeId)
 (B:o.op=.call { callee:=.builtin .append,args:=#[s,x],argTypes:=#[t,t] })
 (b:Nat) (e:TypeId) (i:TypeInfo) (C:P.underlying t=M (.slice e)) (D:P.info? e=M i) (G:i.zero=M (I .u8 0)) (r:i.size=1) (u:i.bytes=1)
 {ao:aj} {cap n:Nat} {l:au} (H:a.eval s=Z ao n cap) (L:l.length=n) (j:iD w b e ao cap l)
 {z:aj} {d p:Nat} {l2:au} (N:a.eval x=Z z p d) (v:l2.length=p) (k:iG w z d l2)
 (m:n+p<=140737488355328) (f:b<=w.heap.size)
 (h:∀gV c w',iD w' b e gV c (l++l2)->w.grownBy w' (gK ao)->wpList P g y rest (a.put o.dst (Z gV (n+p) c)) w'):wpList P g y (o::rest) a w :=
 iI q s x t B b e i C D G r u H L j N v k m f (fun gV c w' O S _=>h gV c w' O S)
def jm (w:X)(ao:aj)(cap n:Nat)(xs:List Value):Prop :=
 n<=cap∧(ao=U->cap=0)∧∀j u,xs[j]? = M u->∃a,ao=M a∧w.cell? (a.add j)=M u
theorem jm.cell {w:X}{a:Addr}{cap n:Nat}{xs:List Value}(h:jm w (M a) cap n xs){j:Nat}{u:Value}(b:xs[j]? = M u):w.cell? (a.add j)=M u:=by
 obtain⟨d,e,c⟩:=h.2.2 j u b;injection e with e;subst e;exact c
theorem jm.lit {w:X}{ao:aj}{cap n:Nat}{xs:List Value}(h:jm w ao cap n xs)(a:0<xs.length):∃b o,ao=M ⟨b,o,U⟩∧∀j u,xs[j]? = M u->w.cell? ⟨b,o+j,U⟩=M u:=by
 obtain⟨⟨b,o,c⟩,rfl,d⟩:=h.2.2 0 xs[0] (dB a);have e:c=U:=by simpa[Addr.add] using World.cell?_spot d
 subst e;refine⟨b,o,rfl,fun j u f=>?_⟩;have:=h.cell f;rwa[gH] at this
theorem jm.nil (w:X):jm w U 0 0 []:=⟨aL _,fun _=>rfl,fun j u a=>by simp at a⟩
theorem jm.move {w w':X}{ao:aj}{cap n:Nat}{xs:List Value}(h:jm w ao cap n xs)(b:∀a,ao=M a->∀v j,w.cell? (a.add j)=M v->w'.cell? (a.add j)=M v):jm w' ao cap n xs:=by
 refine⟨h.1,h.2.1,fun j u c=>?_⟩;obtain⟨a,e,d⟩:=h.2.2 j u c;exact⟨a,e,b a e _ j d⟩
theorem jm.stay {w w':X}{ao:aj}{cap n:Nat}{xs:List Value}(h:jm w ao cap n xs)(c:Below w.heap.size w w'):jm w' ao cap n xs :=
 h.move fun a _ v j b=>by rw[c.cell (fZ w _ b)];exact b
theorem jm.grown {w w':X}{ao:aj}{cap n:Nat}{xs:List Value}{row:Option Nat}(h:jm w ao cap n xs)(b:w.grownBy w' row)(ha:∀a,ao=M a->M a.block≠row):jm w' ao cap n xs :=
 h.move fun a e v j c=>b.cell c (by rw[add_block];exact ha a e)
theorem jm.alloc {w:X}{ao:aj}{cap n:Nat}{xs:List Value}(h:jm w ao cap n xs)(o:Obj):jm (w.alloc o) ao cap n xs:=h.grown (gy w o U) (fun a _=>by simp)
theorem jm.made (w:X)(a:Array Value)(n t:Nat)(b:Nat×Nat):jm (w.alloc (.cells a t b)) (M ⟨w.heap.size,0,U⟩) n n a.toList:=by
 refine⟨aL _,fun e=>by simp at e,fun j u c=>⟨_,rfl,?_⟩⟩;rw[gH,World.cell?_alloc_mark,aZ];simpa using c
def gU (w:X)(base t k:Nat)(ao:aj)(cap n:Nat)(xs:List Value):Prop:=w.ownsRow base t k (Z ao n cap) n xs
theorem gU.nil (w:X)(a t k:Nat):gU w a t k U 0 0 []:=World.ownsRow_nil _ _ _ _
theorem gU.of {w:X}{a t k n:Nat}{v:Value}{xs:List Value}(h:w.ownsRow a t k v n xs):∃ao cap,v=Z ao n cap∧gU w a t k ao cap n xs:=by
 rcases h.2 with ⟨rfl,b⟩ | ⟨g,cap,c,rfl,_⟩
 . subst b;exact⟨U,0,rfl,h⟩
 . exact⟨_,_,rfl,h⟩
theorem gU.nP {w:X}{a t k:Nat}{ao:aj}{cap n:Nat}{xs:List Value}(h:gU w a t k ao cap n xs):jm w ao cap n xs:=by
 have d:=h.1;rcases h.2 with ⟨e,i⟩ | ⟨g,f,l,e,q,r,m,s,v,x⟩
 . injection e with b o c;subst b;subst c;subst i;rw[aY] at d;rw[dn d];exact jm.nil w
 . injection e with b o c;subst b;subst c;exact⟨m,fun e=>by simp at e,fun j u p=>⟨_,rfl,World.ownsRow.cells h (g:=g) rfl j u p⟩⟩
theorem gU.block {w:X}{b t k:Nat}{ao:aj}{cap n:Nat}{xs:List Value}(h:gU w b t k ao cap n xs)(a:Addr)(e:ao=M a):b<=a.block∧a.block<w.heap.size:=by
 subst e;exact World.ownsRow.lt h a.block rfl
theorem gU.below {w w':X}{b t k:Nat}{ao:aj}{cap n:Nat}{xs:List Value}{B:Nat}(h:gU w b t k ao cap n xs)(f:Below B w w')(ha:∀a,ao=M a->a.block<B):gU w' b t k ao cap n xs:=by
 refine⟨h.1,?_⟩;rcases h.2 with i | ⟨g,c,d,e,j,l,r⟩
 . exact Or.inl i
 . refine Or.inr ⟨g,c,d,e,j,?_,r⟩;injection e with m o p;rw[f.block g (ha _ m)];exact l
theorem gU.stay {w w':X}{b t k:Nat}{ao:aj}{cap n:Nat}{xs:List Value}(h:gU w b t k ao cap n xs)(c:Below w.heap.size w w'):gU w' b t k ao cap n xs:=h.below c (fun a e=>(h.block a e).2)
theorem iD.stay {w w':X}{b t:Nat}{ao:aj}{cap:Nat}{l:au}(h:iD w b t ao cap l)(c:Below w.heap.size w w'):iD w' b t ao cap l:=h.below c (fun a e=>(h.block a e).2)
theorem gU.mono {w:X}{b a t k:Nat}{ao:aj}{cap n:Nat}{xs:List Value}(h:gU w b t k ao cap n xs)(i:a<=b):gU w a t k ao cap n xs:=by
 refine⟨h.1,?_⟩;rcases h.2 with f | ⟨g,c,d,e,j,r⟩
 . exact Or.inl f
 . exact Or.inr ⟨g,c,d,e,by omega,r⟩
theorem gU.alloc {w:X}{a t k:Nat}{ao:aj}{cap n:Nat}{xs:List Value}(h:gU w a t k ao cap n xs)(o:Obj):gU (w.alloc o) a t k ao cap n xs:=World.ownsRow.alloc h o
theorem gQ {P:Program}{w:X}{v:Array Oper}{rest:List Oper}{o:Oper}{a:Act}{N:Exit->Act->X->Prop}(y:o.guard=U)(s x:Operand)(t:TypeId)
 (O:o.op=.call { callee:=.builtin .append,args:=#[s,x],argTypes:=#[t,t] })
 (b:Nat) (e:TypeId) (i:TypeInfo) (z:Value) (k bytes:Nat) (S:P.underlying t=M (.slice e)) (T:P.info? e=M i) (hz:i.zero=M z) (B:i.size=k) (C:i.bytes=bytes) (D:z.cells.size=k) (hk:0<k)
 {ao:aj} {cap n:Nat} {xs:List Value} (W:a.eval s=Z ao n cap) (d:gU w b e k ao cap n xs)
 {G:aj} {f l:Nat} {r:List Value} (hx:a.eval x=Z G l f) (g:jm w G f l r) (H:r.length=l*k) (h1:∀u∈r,u.oneCell'=true)
 (hlen:n+l<=9223372036854775807) (L:(n+l)*bytes<=140737488355328) (m:b<=w.heap.size)
 (h:∀gV c w',gU w' b e k gV c (n+l) (xs++r)->w.grownBy w' (gK ao)->(gK gV=gK ao∨gK gV=M w.heap.size)->wpList P v N rest (a.put o.dst (Z gV (n+l) c)) w'):wpList P v N (o::rest) a w:=by
 cases G with
 | none =>
   have hc:=g.2.1 rfl;have hn:=g.1;obtain rfl:l=0:=by omega
   subst hc;rw[aY] at H;obtain rfl:r=[]:=dn H;refine wpList_append_own_none y s x t O b e i k S T _ n xs W d hx ?_;have:=h ao cap w (by rw[bV];exact d) ⟨rfl,rfl,rfl,aL _,fun _ _ _=>rfl⟩ (Or.inl rfl);simpa using this
 | some ad =>
   refine wpList_append_own_at w y s x t O b e i z k bytes S T hz B C D hk _ n xs W d ad l f r hx H (fun j u hu=>g.cell hu) h1 (by unfold maxLen;omega) L m ?_;intro v' w' p hg _ q;obtain⟨gV,c,rfl,hB⟩:=gU.of p;rw[gN] at hg q;rw[gN] at q;exact h gV c w' hB hg q
def oH (l:List av):List Value:=l.map Value.string
theorem sH (l:List av):(oH l).length=l.length:=by simp[oH]
theorem vP (a b:List av):oH (a++b)=oH a++oH b:=by simp[oH]
theorem zm (l:List av)(j:Nat)(h:j<l.length):(oH l)[j]? = M (V l[j]):=by simp[oH,h]
def gT (l:ak):List Value:=l.flatMap fun p=>[V p.1,V p.2]
theorem mV (l:ak):(gT l).length=l.length*2:=by
 induction l with
 | nil=>rfl
 | cons p t a=>simp only[gT,aU,aV,aW,bZ] at a ⊢;omega
theorem qA (a b:ak):gT (a++b)=gT a++gT b:=by simp[gT]
theorem Gu (l:ak):∀u∈gT l,u.oneCell'=true:=by
 intro u b;obtain⟨p,_,a⟩:=List.mem_flatMap.1 b;simp at a;rcases a with rfl | rfl <;> rfl
theorem nX (l:ak):∀j (h:j<l.length),(gT l)[j*2]? = M (V l[j].1)∧(gT l)[j*2+1]? = M (V l[j].2):=by
 induction l with
 | nil=>intro j h;simp at h
 | cons p t a =>
   intro j h;cases j with
   | zero=>exact⟨rfl,rfl⟩
   | succ j =>
     have:=a j (by simpa using h);have e:∀q,(gT (p::t))[(q+2)]? = (gT t)[q]?:=fun q=>rfl;rw[show(j+1)*2=j*2+2 by omega,show j*2+2+1=(j*2+1)+2 by omega,e,e];simpa using this
structure iM where
 kind:Int
 method:av
 target:av
 minor:Int
 fields:ak
 length:Int
 bytes:au
 kV:av
 kI:av
 ptype:av
 iq:au
 code:Int
structure EvS where
 fo:aj
 gL:Nat
 bo:aj
 gJ:Nat
 po:aj
 jy:Nat
def iM.cells (e:iM)(s:EvS):List Value:=[I .i64 e.kind,V e.method,V e.target,I .i64 e.minor,Z s.fo e.fields.length s.gL,I .i64 e.length,Z s.bo e.bytes.length s.gJ,V e.kV,V e.kI,V e.ptype,Z s.po e.iq.length s.jy,I .i64 e.code]
structure abr (w:X)(b o:Nat)(e:iM)(s:EvS):Prop where
 at_:∀j u,(e.cells s)[j]? = M u->w.cell? ⟨b,o+j,U⟩=M u
 fields:jm w s.fo s.gL e.fields.length (gT e.fields)
 bytes:iG w s.bo s.gJ e.bytes
 iq:iG w s.po s.jy e.iq
def FT (w:X)(ao:aj)(cap:Nat)(es:List iM):Prop :=
 es.length<=cap∧(ao=U->cap=0)∧∀j (hj:j<es.length),∃b o s,ao=M ⟨b,o,U⟩∧abr w b (o+j*12) es[j] s
theorem FT.nil (w:X):FT w U 0 []:=⟨aL _,fun _=>rfl,fun j a=>by simp at a⟩
theorem FT.lit {w:X}{ao:aj}{cap:Nat}{es:List iM}(h:FT w ao cap es)(c:0<es.length):∃b o,ao=M ⟨b,o,U⟩∧∀j (a:j<es.length),∃s,abr w b (o+j*12) es[j] s:=by
 obtain⟨b,o,_,rfl,_⟩:=h.2.2 0 c;refine⟨b,o,rfl,fun j a=>?_⟩;obtain⟨i,k,s,e,d⟩:=h.2.2 j a;injection e with e;injection e with f g;subst f;subst g;exact⟨s,d⟩
end Go.Proofs.YtjmndjmhjleabaaGreatDoor
namespace Go.Proofs.YtjmndjmhjleabaaGreatDoor
def jX (b:au):iM:=⟨2,⟨#[]⟩,⟨#[]⟩,0,[],0,b,⟨#[]⟩,⟨#[]⟩,⟨#[]⟩,[],0⟩
def tailD (l:List iM):Bool :=
 match l.getLast? with
 | some x=>decide (x.kind=2)
 | none=>false
def qQ (l:List iM):au :=
 match l.getLast? with
 | some x=>x.bytes
 | none=>[]
def vL (l:List iM)(e:iM):List iM:=if e.kind=2∧tailD l=true then l.dropLast++[jX (qQ l++e.bytes)] else l++[e]
def lX (l:List iM):List iM:=l.foldl vL []
def lI:List iM->Nat
 | []=>0
 | e::r=>e.bytes.length+lI r
theorem rJ (l:List iM)(e:iM):tailD (l++[e])=decide (e.kind=2):=by unfold tailD;rw[eZ];simp
theorem rM (l:List iM)(e:iM):qQ (l++[e])=e.bytes:=by unfold qQ;rw[eZ];simp
theorem pJ {l:List iM}(h:tailD l=true):∃q x,l=q++[x]∧x.kind=2:=by
 rcases bC l with rfl | ⟨q,x,rfl⟩
 . cases h
 . rw[bE,rJ] at h;exact⟨q,x,by rw[bE],dh h⟩
theorem nM (q:List iM)(x e:iM)(a:x.kind=2)(b:e.kind=2):vL (q++[x]) e=q++[jX (x.bytes++e.bytes)]:=by
 unfold vL;rw[if_pos ⟨b,by rw[rJ];exact aH a⟩,rM,fq]
theorem mI (l:List iM)(e:iM)(h:e.kind=2->tailD l=false):vL l e=l++[e]:=by
 unfold vL;rw[if_neg (fun k=>by rw[h k.1] at k;cases k.2)]
theorem DI (l:List iM)(e:iM):lX (l++[e])=vL (lX l) e:=by unfold lX;rw[fu];rfl
theorem mJ:∀a b:List iM,lI (a++b)=lI a+lI b
 | [],b=>by simp[lI]
 | x::r,b=>by rw[dY,lI,lI,mJ r b];omega
theorem KD:∀(l:List iM) (e:iM),e∈l->e.bytes.length<=lI l
 | x :: r, e, h => by
   rw[lI];rcases fA.1 h with rfl | h
   . omega
   . have:=KD r e h;omega
theorem Ja (l:List iM):(qQ l).length<=lI l:=by
 rcases bC l with rfl | ⟨q,x,rfl⟩
 . exact ay _
 . rw[bE,rM];exact KD _ x (by simp)
theorem Vy (l:List iM)(e:iM):lI (vL l e)=lI l+e.bytes.length:=by
 by_cases h:e.kind=2∧tailD l=true
 . obtain⟨q,x,rfl,a⟩:=pJ h.2;rw[nM q x e a h.1,mJ,mJ];simp[lI,jX];omega
 . rw[mI l e (fun k=>by
    cases b:tailD l
    . rfl
    . exact absurd ⟨k,b⟩ h),mJ]
   simp[lI]
theorem He (l:List iM):lI (lX l)=lI l:=by
 have:∀(m:List iM) (o:List iM),lI (m.foldl vL o)=lI o+lI m:=by
  intro m;induction m with
  | nil=>intro o;simp[lI]
  | cons e r a=>intro o;rw[dP,a,Vy,lI];omega
 have h:=this l [];simpa[lX,lI] using h
theorem KE (l:List iM)(e:iM):(vL l e).length<=l.length+1:=by
 by_cases h:e.kind=2∧tailD l=true
 . obtain⟨q,x,rfl,a⟩:=pJ h.2;rw[nM q x e a h.1];simp
 . rw[mI l e (fun k=>by
    cases b:tailD l
    . rfl
    . exact absurd ⟨k,b⟩ h)]
   simp
theorem uG (l:List iM):(lX l).length<=l.length:=by
 have:∀(m:List iM) (o:List iM),(m.foldl vL o).length<=o.length+m.length:=by
  intro m;induction m with
  | nil=>intro o;simp
  | cons e r a=>intro o;rw[dP];have b:=a (vL o e);have c:=KE o e;simp only[aW];omega
 have h:=this l [];simpa[lX] using h
theorem Rt {p:iM->Prop}(f:∀b,p (jX b))(l:List iM)(h:∀e∈l,p e):∀e∈lX l,p e:=by
 have:∀(m:List iM) (o:List iM),(∀e∈o,p e)->(∀e∈m,p e)->∀e∈m.foldl vL o,p e:=by
  intro m;induction m with
  | nil=>intro o c _ e a;exact c e a
  | cons x r g =>
    intro o c d;rw[dP];refine g (vL o x) (fun e a=>?_) (fun e a=>d e (cK _ a));unfold vL at a;split at a
    . rcases bA.1 a with a | a
      . exact c e (List.dropLast_subset o a)
      . rw[bB.1 a];exact f _
    . rcases bA.1 a with a | a
      . exact c e a
      . rw[bB.1 a];exact d x (cB ..)
 exact this l [] (fun e a=>by cases a) h
end Go.Proofs.YtjmndjmhjleabaaGreatDoor
namespace Go.Proofs.YtjmndjmhjleabaaGreatDoor
open Go.RowKit
end Go.Proofs.YtjmndjmhjleabaaGreatDoor