import Derived.Test.YtodmelffkfbalaaGreatDoorAl
import Derived.Test.YtodmelffkfbalaaGreatDoorAm
import Derived.WalkKit
import Derived.Laws.AppendOwnNone
import Derived.Maps.AppendAt
import Derived.Deep.Draws
open Go.Value renaming int->I,string->V,slice->Z
open Option renaming none->U,some->M
open Go renaming World->X
namespace Go.Proofs.YtodmelffkfbalaaGreatDoor
open Go.RowKit
theorem bg (B:Nat)(w:X):Below B w w.drew:=⟨rfl,rfl,rfl,am _,fun _ _=>rfl⟩
def bA (l:ab):List Value:=l.map fun b=>I .u8 (b.toNat:Int)
theorem dq (l:ab):(bA l).length=l.length:=by simp[bA]
theorem oY (a b:ab):bA (a++b)=bA a++bA b:=by simp[bA]
theorem tj (l:ab):∀u∈bA l,u.oneCell'=true:=by
 intro u a;obtain⟨b,_,rfl⟩:=oh.1 a;rfl
theorem jO (l:ab)(j:Nat)(h:j<l.length):(bA l)[j]? = M (I .u8 (l[j].toNat:Int)):=by
 simp[bA,h]
def az (w:X)(ao:ag)(cap:Nat)(l:ab):Prop :=
 l.length<=cap∧(ao=U->cap=0)∧∀j (hj:j<l.length),∃a,ao=M a∧w.cell? (a.add j)=M (I .u8 (l[j].toNat:Int))
theorem az.j {w:X}{a:Addr}{cap:Nat}{l:ab}(h:az w (M a) cap l)(j:Nat)(b:j<l.length):w.cell? (a.add j)=M (I .u8 (l[j].toNat:Int)):=by grind [az]
theorem az.nE {w:X}{ao:ag}{cap:Nat}{l:ab}(h:az w ao cap l)(b:0<l.length):∃a,ao=M a:=by
 obtain⟨a,e,_⟩:=h.2.2 0 b;exact⟨a,e⟩
theorem az.e (w:X):az w U 0 []:=⟨am _,fun _=>rfl,fun j a=>by simp at a⟩
theorem az.E {w:X}{cap:Nat}{l:ab}(h:az w U cap l):l=[]∧cap=0:=by
 have a:=h.2.1 rfl;have b:=h.1;exact⟨iz (by omega),a⟩
theorem az.q {w:X}{ao:ag}{cap:Nat}{l:ab}(h:az w ao cap l)(c:0<l.length):∃b o,ao=M ⟨b,o,U⟩∧∀j (a:j<l.length),w.cell? ⟨b,o+j,U⟩=M (I .u8 (l[j].toNat:Int)):=by
 obtain⟨⟨b,o,d⟩,rfl,e⟩:=h.2.2 0 c;have f:d=U:=by simpa[Addr.add] using World.cell?_spot e
 subst f;refine⟨b,o,rfl,fun j a=>?_⟩;have:=h.j j a;rwa[gg] at this
theorem az.lG {w w':X}{ao:ag}{cap:Nat}{l:ab}(h:az w ao cap l)(b:∀a,ao=M a->∀v j,w.cell? (a.add j)=M v->w'.cell? (a.add j)=M v):az w' ao cap l:=by grind [az]
theorem oj (a:Addr)(j:Nat):(a.add j).block=a.block:=by unfold Addr.add;split <;> rfl
theorem az.kW {w w':X}{ao:ag}{cap:Nat}{l:ab}{row:Option Nat}(h:az w ao cap l)(b:w.grownBy w' row)(ha:∀a,ao=M a->M a.block≠row):az w' ao cap l :=
 h.lG fun a e v j c=>b.cell c (by rw[oj];exact ha a e)
theorem az.a {w w':X}{ao:ag}{cap:Nat}{l:ab}(h:az w ao cap l)(c:Below w.heap.size w w'):az w' ao cap l :=
 h.lG fun a _ v j b=>by rw[c.cell (ch w _ b)];exact b
theorem az.y {w:X}{ao gL:ag}{cap:Nat}{l:ab}(h:az w ao cap l)(b c:Nat)(o:b<=c)(p:c<=l.length)
 (g:cap≠b->gL=ao.map (·.add b)):az w gL (cap-b) ((l.drop b).take (c-b)):=by
 have q:=h.1;have d:((l.drop b).take (c-b)).length=c-b:=by rw[bV,cQ];omega
 refine⟨by omega,fun i=>?_,fun j k=>?_⟩
 . by_cases e:cap=b
   . omega
   . have:=g e;rw[i] at this;have m:=Option.map_eq_none_iff.1 this.symm;have:=h.2.1 m;omega
 . rw[d] at k;obtain⟨a,e,n⟩:=h.2.2 (b+j) (by omega);have f:cap≠b:=by omega
   refine⟨a.add b,by rw[g f,e];rfl,?_⟩;rw[Addr.add_add,n];simp
theorem az.jZ {w:X}{ao:ag}{cap:Nat}{l:ab}(h:az w ao cap l)(n:Nat)(a:n<=l.length):az w ao cap (l.take n):=by
 have:=h.y (gL:=ao) 0 n (ax _) a (fun _=>by cases ao <;> simp[Addr.add]);simpa using this
theorem az.B {P:Program}{w:World}{ao:ag}{cap:Nat}{l:ab}(h:az w ao cap l)(src dst e:TypeId)(hs:P.underlying src=Option.some (.slice e))(he:P.underlying e=Option.some (.int .u8))(hd:P.underlying dst=Option.some .string):
 (convert src dst (.slice ao l.length cap)).run P w=.ok (.string ⟨l.toArray⟩) w:=by
 cases ao with
 | none =>
   obtain⟨rfl,rfl⟩:=h.E;rw[run_convert_bytes_string w src dst e none _ _ hs he hd];rfl
 | some a=>exact run_convert_bytes_back w src dst e a cap l hs he hd (fun j hj=>h.j j hj)
def bl (w:X)(base t:Nat)(ao:ag)(cap:Nat)(l:ab):Prop:=w.ownsRow base t 1 (Z ao l.length cap) l.length (bA l)
theorem bl.q (w:X)(a t:Nat):bl w a t U 0 []:=World.ownsRow_nil _ _ _ _
theorem bl.B {w:X}{a t:Nat}{v:Value}{l:ab}{n:Nat}(b:n=l.length)(h:w.ownsRow a t 1 v n (bA l)):∃ao cap,v=Z ao l.length cap∧bl w a t ao cap l:=by
 subst b;rcases h.2 with ⟨rfl,c⟩ | ⟨g,cap,d,rfl,_⟩
 . have e:l=[]:=iz c;subst e;exact⟨U,0,rfl,h⟩
 . exact⟨_,_,rfl,h⟩
theorem bl.f {w:X}{a t:Nat}{ao:ag}{cap:Nat}{l:ab}(h:bl w a t ao cap l):az w ao cap l:=by
 rcases h.2 with ⟨e,f⟩ | ⟨g,d,i,e,o,p,k,q,r,s⟩
 . injection e with b m c;subst b;subst c;rw[iz f];exact az.e w
 . injection e with b m c;subst b;subst c;refine⟨k,fun e=>by simp at e,fun j n=>⟨_,rfl,?_⟩⟩;exact World.ownsRow.cells h (g:=g) rfl j _ (jO l j n)
theorem bl.e {w:X}{b t:Nat}{ao:ag}{cap:Nat}{l:ab}(h:bl w b t ao cap l)(a:Addr)(e:ao=M a):b<=a.block∧a.block<w.heap.size:=by
 subst e;exact World.ownsRow.lt h a.block rfl
theorem bl.E {w:X}{a t:Nat}{ao:ag}{cap:Nat}{l:ab}(h:bl w a t ao cap l)(m:0<l.length):∃g,ao=M ⟨g,0,U⟩∧a<=g∧∀j (b:j<l.length),w.cell? ⟨g,j,U⟩=M (I .u8 (l[j].toNat:Int)):=by
 rcases h.2 with ⟨e,n⟩ | ⟨g,c,d,e,f,o,p,q,r,s⟩
 . omega
 . injection e with i u k;subst i;subst k;refine⟨g,rfl,f,fun j b=>?_⟩;have:=World.ownsRow.cells h (g:=g) rfl j _ (jO l j b);rwa[gg,eh] at this
theorem bl.G {w w':X}{b t:Nat}{ao:ag}{cap:Nat}{l:ab}{row:Option Nat}(h:bl w b t ao cap l)(c:w.grownBy w' row)(ha:∀a,ao=M a->M a.block≠row):bl w' b t ao cap l:=by
 refine World.ownsRow.kept h c ?_;cases ao with
 | none=>exact Or.inl rfl
 | some a=>exact Or.inr (ha a rfl)
theorem bl.below {w w':X}{b t:Nat}{ao:ag}{cap:Nat}{l:ab}{B:Nat}(h:bl w b t ao cap l)(f:Below B w w')(ha:∀a,ao=M a->a.block<B):bl w' b t ao cap l:=by
 refine⟨h.1,?_⟩;rcases h.2 with i | ⟨g,c,d,e,j,k,r⟩
 . exact Or.inl i
 . refine Or.inr ⟨g,c,d,e,j,?_,r⟩;injection e with m n o;rw[f.block g (ha _ m)];exact k
theorem bl.y {w:X}{a base' t:Nat}{ao:ag}{cap:Nat}{l:ab}(h:bl w a t ao cap l)(f:base'<=a):bl w base' t ao cap l:=by
 refine⟨h.1,?_⟩;rcases h.2 with d | ⟨g,b,c,e,i,r⟩
 . exact Or.inl d
 . exact Or.inr ⟨g,b,c,e,by omega,r⟩
theorem bl.a {w:X}{a t:Nat}{ao:ag}{cap:Nat}{l:ab}(h:bl w a t ao cap l)(o:Obj):bl (w.alloc o) a t ao cap l:=World.ownsRow.alloc h o
theorem az.G {w:X}{ao:ag}{cap:Nat}{l:ab}(h:az w ao cap l)(o:Obj):az (w.alloc o) ao cap l:=h.kW (ri w o U) (fun a _=>by simp)
theorem az.f (w:X)(c:UInt8)(t:Nat)(b:Nat×Nat):az (w.alloc (.cells #[I .u8 (c.toNat:Int)] t b)) (M ⟨w.heap.size,0,U⟩) 1 [c]:=by
 refine⟨am _,fun e=>by simp at e,fun j a=>⟨_,rfl,?_⟩⟩;have e:j=0:=by simp at a;exact a
 subst e;rw[gg,World.cell?_alloc_mark];rfl
theorem az.oH (w:X)(s:ae)(cap t:Nat)(c:Nat×Nat)(a:s.size<=cap):az (w.alloc (.cells (bytesRow s cap) t c)) (M ⟨w.heap.size,0,U⟩) cap s.data.toList:=by
 refine⟨by rw[cI];exact a,fun e=>by simp at e,fun j b=>⟨_,rfl,?_⟩⟩;rw[cI] at b;rw[gg,World.cell?_alloc_mark,eh,bytesRow_at s cap j b];simp
theorem EO {P:Program}(W:X)(s:ae)(a b e:TypeId)(d:P.underlying a=M .string)(hd:P.underlying b=M (.slice e))(f:P.underlying e=M (.int .u8)):
 ∃cap c,(convert a b (V s)).run P W=.ok (Z (M ⟨W.heap.size,0,U⟩) s.size cap) c∧Below W.heap.size W c∧c.heap.size=W.heap.size+1∧az c (M ⟨W.heap.size,0,U⟩) cap s.data.toList:=by
 refine⟨_,_,run_bytes_of_string (P:=P) W a b e s d hd f,((bg _ W).alloc (am _) _),by simp,az.oH W.drew s _ _ _ (grownCap_ge W s.size 0 e)⟩
def aw:ag->Option Nat
 | some a=>M a.block
 | none=>U
theorem dp (ao:ag)(n cap:Nat):(Value.slice ao n cap).ownBlock=aw ao:=by cases ao <;> rfl
theorem op {a b c:X}{row:Option Nat}(h:a.grownBy b row)(k:b.grownBy c row):a.grownBy c row :=
 ⟨k.os.trans h.os,k.tape.trans h.tape,k.output.trans h.output,co h.size k.size,fun i e d=>(k.block i (nC e h.size) d).trans (h.block i e d)⟩
theorem BY {a b:X}(row:Option Nat)(h:Below a.heap.size a b):a.grownBy b row:=⟨h.os,h.tape,h.output,h.size,fun i c _=>h.block i c⟩
theorem vK (w:X)(row:Option Nat):w.grownBy w.drew row:=⟨rfl,rfl,rfl,am _,fun _ _ _=>rfl⟩
theorem sR {P:Program}{w:X}{q:Array Oper}{rest:List Oper}{o:Oper}{a:Act}{aaw:Exit->Act->X->Prop}(r:o.guard=U)(s x:Operand)(t:TypeId)
 (G:o.op=.call { callee:=.builtin .append,args:=#[s,x],argTypes:=#[t,t] })
 (b:Nat) (e:TypeId) (i:TypeInfo) (H:P.underlying t=M (.slice e)) (L:P.info? e=M i) (hz:i.zero=M (I .u8 0)) (z:i.size=1) (B:i.bytes=1)
 {ao:ag} {cap n:Nat} {l:ab} (N:a.eval s=Z ao n cap) (hn:l.length=n) (d:bl w b e ao cap l)
 {C:ag} {f y:Nat} {l2:ab} (S:a.eval x=Z C y f) (D:l2.length=y) (k:az w C f l2)
 (T:n+y<=140737488355328) (m:b<=w.heap.size)
 (h:∀gL c w',bl w' b e gL c (l++l2)->w.grownBy w' (aw ao)->(aw gL=aw ao∨aw gL=M w.heap.size)->wpList P q aaw rest (a.put o.dst (Z gL (n+y) c)) w'):wpList P q aaw (o::rest) a w:=by
 subst hn;subst D;cases C with
 | none =>
   obtain⟨rfl,rfl⟩:=k.E;refine wpList_append_own_none r s x t G b e i 1 H L _ l.length (bA l) N d S ?_;have:=h ao cap w (by rw[fx];exact d) ⟨rfl,rfl,rfl,am _,fun _ _ _=>rfl⟩ (Or.inl rfl);simpa using this
 | some ad =>
   refine wpList_append_own_at w r s x t G b e i (I .u8 0) 1 1 H L hz z B rfl (by decide) _ l.length (bA l) N d ad l2.length f (bA l2) S (by rw[dq];omega) (fun j u v=>?_) (tj l2) (by unfold maxLen;omega) (by omega) m ?_
   . have W:j<l2.length:=by
      have:=(fw.1 v).1;rwa[dq] at this
     rw[jO l2 j W] at v;injection v with v;subst v;exact k.j j W
   . intro v' w' g hg _ p;rw[<-oY] at g;obtain⟨gL,c,rfl,hB⟩:=bl.B (by simp) g;rw[dp] at hg p;rw[dp] at p;have:=h gL c w' hB hg p;simpa using this
theorem ld {P:Program}{w:X}{g:Array Oper}{rest:List Oper}{o:Oper}{a:Act}{aaw:Exit->Act->X->Prop}(q:o.guard=U)(s x:Operand)(t:TypeId)
 (z:o.op=.call { callee:=.builtin .append,args:=#[s,x],argTypes:=#[t,t] })
 (b:Nat) (e:TypeId) (i:TypeInfo) (B:P.underlying t=M (.slice e)) (C:P.info? e=M i) (D:i.zero=M (I .u8 0)) (r:i.size=1) (u:i.bytes=1)
 {ao:ag} {cap n:Nat} {l:ab} (G:a.eval s=Z ao n cap) (H:l.length=n) (j:bl w b e ao cap l)
 {y:ag} {d p:Nat} {l2:ab} (L:a.eval x=Z y p d) (v:l2.length=p) (k:az w y d l2)
 (m:n+p<=140737488355328) (f:b<=w.heap.size)
 (h:∀gL c w',bl w' b e gL c (l++l2)->w.grownBy w' (aw ao)->wpList P g aaw rest (a.put o.dst (Z gL (n+p) c)) w'):wpList P g aaw (o::rest) a w :=
 sR q s x t z b e i B C D r u G H j L v k m f (fun gL c w' N S _=>h gL c w' N S)
def bx (w:X)(ao:ag)(cap n:Nat)(xs:List Value):Prop :=
 n<=cap∧(ao=U->cap=0)∧∀j u,xs[j]? = M u->∃a,ao=M a∧w.cell? (a.add j)=M u
theorem bx.q {w:X}{a:Addr}{cap n:Nat}{xs:List Value}(h:bx w (M a) cap n xs){j:Nat}{u:Value}(b:xs[j]? = M u):w.cell? (a.add j)=M u:=by grind [bx]
theorem bx.f {w:X}{ao:ag}{cap n:Nat}{xs:List Value}(h:bx w ao cap n xs)(a:0<xs.length):∃b o,ao=M ⟨b,o,U⟩∧∀j u,xs[j]? = M u->w.cell? ⟨b,o+j,U⟩=M u:=by
 obtain⟨⟨b,o,c⟩,rfl,d⟩:=h.2.2 0 xs[0] (iA a);have e:c=U:=by simpa[Addr.add] using World.cell?_spot d
 subst e;refine⟨b,o,rfl,fun j u f=>?_⟩;have:=h.q f;rwa[gg] at this
theorem bx.j (w:X):bx w U 0 0 []:=⟨am _,fun _=>rfl,fun j u a=>by simp at a⟩
theorem bx.y {w w':X}{ao:ag}{cap n:Nat}{xs:List Value}(h:bx w ao cap n xs)(b:∀a,ao=M a->∀v j,w.cell? (a.add j)=M v->w'.cell? (a.add j)=M v):bx w' ao cap n xs:=by grind [bx]
theorem bx.a {w w':X}{ao:ag}{cap n:Nat}{xs:List Value}(h:bx w ao cap n xs)(c:Below w.heap.size w w'):bx w' ao cap n xs :=
 h.y fun a _ v j b=>by rw[c.cell (ch w _ b)];exact b
theorem bx.jL {w w':X}{ao:ag}{cap n:Nat}{xs:List Value}{row:Option Nat}(h:bx w ao cap n xs)(b:w.grownBy w' row)(ha:∀a,ao=M a->M a.block≠row):bx w' ao cap n xs :=
 h.y fun a e v j c=>b.cell c (by rw[oj];exact ha a e)
theorem bx.E {w:X}{ao:ag}{cap n:Nat}{xs:List Value}(h:bx w ao cap n xs)(o:Obj):bx (w.alloc o) ao cap n xs:=h.jL (ri w o U) (fun a _=>by simp)
theorem bx.e (w:X)(a:Array Value)(n t:Nat)(b:Nat×Nat):bx (w.alloc (.cells a t b)) (M ⟨w.heap.size,0,U⟩) n n a.toList:=by
 refine⟨am _,fun e=>by simp at e,fun j u c=>⟨_,rfl,?_⟩⟩;rw[gg,World.cell?_alloc_mark,eh];simpa using c
def aL (w:X)(base t k:Nat)(ao:ag)(cap n:Nat)(xs:List Value):Prop:=w.ownsRow base t k (Z ao n cap) n xs
theorem aL.q (w:X)(a t k:Nat):aL w a t k U 0 0 []:=World.ownsRow_nil _ _ _ _
theorem aL.jZ {w:X}{a t k n:Nat}{v:Value}{xs:List Value}(h:w.ownsRow a t k v n xs):∃ao cap,v=Z ao n cap∧aL w a t k ao cap n xs:=by
 rcases h.2 with ⟨rfl,b⟩ | ⟨g,cap,c,rfl,_⟩
 . subst b;exact⟨U,0,rfl,h⟩
 . exact⟨_,_,rfl,h⟩
theorem aL.a {w:X}{a t k:Nat}{ao:ag}{cap n:Nat}{xs:List Value}(h:aL w a t k ao cap n xs):bx w ao cap n xs:=by
 have d:=h.1;rcases h.2 with ⟨e,i⟩ | ⟨g,f,l,e,q,r,m,s,v,x⟩
 . injection e with b o c;subst b;subst c;subst i;rw[qW] at d;rw[iz d];exact bx.j w
 . injection e with b o c;subst b;subst c;exact⟨m,fun e=>by simp at e,fun j u p=>⟨_,rfl,World.ownsRow.cells h (g:=g) rfl j u p⟩⟩
theorem aL.e {w:X}{b t k:Nat}{ao:ag}{cap n:Nat}{xs:List Value}(h:aL w b t k ao cap n xs)(a:Addr)(e:ao=M a):b<=a.block∧a.block<w.heap.size:=by
 subst e;exact World.ownsRow.lt h a.block rfl
theorem aL.below {w w':X}{b t k:Nat}{ao:ag}{cap n:Nat}{xs:List Value}{B:Nat}(h:aL w b t k ao cap n xs)(f:Below B w w')(ha:∀a,ao=M a->a.block<B):aL w' b t k ao cap n xs:=by
 refine⟨h.1,?_⟩;rcases h.2 with i | ⟨g,c,d,e,j,l,r⟩
 . exact Or.inl i
 . refine Or.inr ⟨g,c,d,e,j,?_,r⟩;injection e with m o p;rw[f.block g (ha _ m)];exact l
theorem aL.r {w w':X}{b t k:Nat}{ao:ag}{cap n:Nat}{xs:List Value}(h:aL w b t k ao cap n xs)(c:Below w.heap.size w w'):aL w' b t k ao cap n xs:=h.below c (fun a e=>(h.e a e).2)
theorem bl.r {w w':X}{b t:Nat}{ao:ag}{cap:Nat}{l:ab}(h:bl w b t ao cap l)(c:Below w.heap.size w w'):bl w' b t ao cap l:=h.below c (fun a e=>(h.e a e).2)
theorem aL.j {w:X}{a base' t k:Nat}{ao:ag}{cap n:Nat}{xs:List Value}(h:aL w a t k ao cap n xs)(f:base'<=a):aL w base' t k ao cap n xs:=by
 refine⟨h.1,?_⟩;rcases h.2 with d | ⟨g,b,c,e,i,r⟩
 . exact Or.inl d
 . exact Or.inr ⟨g,b,c,e,by omega,r⟩
theorem aL.y {w:X}{a t k:Nat}{ao:ag}{cap n:Nat}{xs:List Value}(h:aL w a t k ao cap n xs)(o:Obj):aL (w.alloc o) a t k ao cap n xs:=World.ownsRow.alloc h o
theorem lP {P:Program}{w:X}{v:Array Oper}{rest:List Oper}{o:Oper}{a:Act}{aaw:Exit->Act->X->Prop}(y:o.guard=U)(s x:Operand)(t:TypeId)
 (N:o.op=.call { callee:=.builtin .append,args:=#[s,x],argTypes:=#[t,t] })
 (b:Nat) (e:TypeId) (i:TypeInfo) (z:Value) (k bytes:Nat) (S:P.underlying t=M (.slice e)) (T:P.info? e=M i) (hz:i.zero=M z) (B:i.size=k) (C:i.bytes=bytes) (D:z.cells.size=k) (hk:0<k)
 {ao:ag} {cap n:Nat} {xs:List Value} (W:a.eval s=Z ao n cap) (d:aL w b e k ao cap n xs)
 {G:ag} {f l:Nat} {r:List Value} (hx:a.eval x=Z G l f) (g:bx w G f l r) (H:r.length=l*k) (h1:∀u∈r,u.oneCell'=true)
 (hlen:n+l<=9223372036854775807) (L:(n+l)*bytes<=140737488355328) (m:b<=w.heap.size)
 (h:∀gL c w',aL w' b e k gL c (n+l) (xs++r)->w.grownBy w' (aw ao)->(aw gL=aw ao∨aw gL=M w.heap.size)->wpList P v aaw rest (a.put o.dst (Z gL (n+l) c)) w'):wpList P v aaw (o::rest) a w:=by
 cases G with
 | none =>
   have hc:=g.2.1 rfl;have hn:=g.1;obtain rfl:l=0:=by omega
   subst hc;rw[qW] at H;obtain rfl:r=[]:=iz H;refine wpList_append_own_none y s x t N b e i k S T _ n xs W d hx ?_;have:=h ao cap w (by rw[fx];exact d) ⟨rfl,rfl,rfl,am _,fun _ _ _=>rfl⟩ (Or.inl rfl);simpa using this
 | some ad =>
   refine wpList_append_own_at w y s x t N b e i z k bytes S T hz B C D hk _ n xs W d ad l f r hx H (fun j u hu=>g.q hu) h1 (by unfold maxLen;omega) L m ?_;intro v' w' p hg _ q;obtain⟨gL,c,rfl,hB⟩:=aL.jZ p;rw[dp] at hg q;rw[dp] at q;exact h gL c w' hB hg q
def jb (l:List ae):List Value:=l.map Value.string
theorem vG (l:List ae):(jb l).length=l.length:=by simp[jb]
theorem Mi (a b:List ae):jb (a++b)=jb a++jb b:=by simp[jb]
theorem vW (l:List ae)(j:Nat)(h:j<l.length):(jb l)[j]? = M (V l[j]):=by simp[jb,h]
def aJ (l:aC):List Value:=l.flatMap fun p=>[V p.1,V p.2]
theorem sS (l:aC):(aJ l).length=l.length*2:=by
 induction l with
 | nil=>rfl
 | cons p t a=>simp only[aJ,oi,aD,bF,iy] at a ⊢;omega
theorem ye (a b:aC):aJ (a++b)=aJ a++aJ b:=by simp[aJ]
theorem Eg (l:aC):∀u∈aJ l,u.oneCell'=true:=by
 intro u b;obtain⟨p,_,a⟩:=List.mem_flatMap.1 b;simp at a;rcases a with rfl | rfl <;> rfl
theorem ow (l:aC):∀j (h:j<l.length),(aJ l)[j*2]? = M (V l[j].1)∧(aJ l)[j*2+1]? = M (V l[j].2):=by
 induction l with
 | nil=>intro j h;simp at h
 | cons p t a =>
   intro j h;cases j with
   | zero=>exact⟨rfl,rfl⟩
   | succ j =>
     have:=a j (by simpa using h);have e:∀q,(aJ (p::t))[(q+2)]? = (aJ t)[q]?:=fun q=>rfl;rw[show(j+1)*2=j*2+2 by omega,show j*2+2+1=(j*2+1)+2 by omega,e,e];simpa using this
structure aA where
 b:Int
 i:ae
 j:ae
 m:Int
 d:aC
 l:Int
 a:ab
 g:ae
 f:ae
 h:ae
 c:ab
 k:Int
structure cS where
 f:ag
 e:Nat
 a:ag
 d:Nat
 c:ag
 b:Nat
def aA.e (e:aA)(s:cS):List Value:=[I .i64 e.b,V e.i,V e.j,I .i64 e.m,Z s.f e.d.length s.e,I .i64 e.l,Z s.a e.a.length s.d,V e.g,V e.f,V e.h,Z s.c e.c.length s.b,I .i64 e.k]
structure Hk (w:X)(b o:Nat)(e:aA)(s:cS):Prop where
 a:∀j u,(e.e s)[j]? = M u->w.cell? ⟨b,o+j,U⟩=M u
 d:bx w s.f s.e e.d.length (aJ e.d)
 c:az w s.a s.d e.a
 f:az w s.c s.b e.c
def TD (w:X)(ao:ag)(cap:Nat)(es:List aA):Prop :=
 es.length<=cap∧(ao=U->cap=0)∧∀j (hj:j<es.length),∃b o s,ao=M ⟨b,o,U⟩∧Hk w b (o+j*12) es[j] s
def dU (b:ab):aA:=⟨2,⟨#[]⟩,⟨#[]⟩,0,[],0,b,⟨#[]⟩,⟨#[]⟩,⟨#[]⟩,[],0⟩
def jx (l:List aA):Bool :=
 match l.getLast? with
 | some x=>decide (x.b=2)
 | none=>false
def to (l:List aA):ab :=
 match l.getLast? with
 | some x=>x.a
 | none=>[]
def iF (l:List aA)(e:aA):List aA:=if e.b=2∧jx l=true then l.dropLast++[dU (to l++e.a)] else l++[e]
def gr (l:List aA):List aA:=l.foldl iF []
def dw:List aA->Nat
 | []=>0
 | e::r=>e.a.length+dw r
theorem vL (l:List aA)(e:aA):jx (l++[e])=decide (e.b=2):=by unfold jx;rw[sK];simp
theorem BA (l:List aA)(e:aA):to (l++[e])=e.a:=by unfold to;rw[sK];simp
theorem yf {l:List aA}(h:jx l=true):∃q x,l=q++[x]∧x.b=2:=by
 rcases mz l with rfl | ⟨q,x,rfl⟩
 . cases h
 . rw[lb,vL] at h;exact⟨q,x,by rw[lb],sF h⟩
theorem te (q:List aA)(x e:aA)(a:x.b=2)(b:e.b=2):iF (q++[x]) e=q++[dU (x.a++e.a)]:=by grind [iF,dU,vL,BA]
theorem rk (l:List aA)(e:aA)(h:e.b=2->jx l=false):iF l e=l++[e]:=by grind [jx,iF]
theorem C3 (l:List aA)(e:aA):gr (l++[e])=iF (gr l) e:=by unfold gr;rw[sL];rfl
theorem sX:∀a b:List aA,dw (a++b)=dw a+dw b:=by intro l;induction l <;> grind [dw]
theorem RM:∀(l:List aA) (e:aA),e∈l->e.a.length<=dw l:=by intro l;induction l <;> grind [dw]
theorem LV (l:List aA):(to l).length<=dw l:=by
 rcases mz l with rfl | ⟨q,x,rfl⟩
 . exact ax _
 . rw[lb,BA];exact RM _ x (by simp)
theorem RO (l:List aA)(e:aA):dw (iF l e)=dw l+e.a.length:=by
 by_cases h:e.b=2∧jx l=true
 . obtain⟨q,x,rfl,a⟩:=yf h.2;rw[te q x e a h.1,sX,sX];simp[dw,dU];omega
 . rw[rk l e (fun k=>by
    cases b:jx l
    . rfl
    . exact absurd ⟨k,b⟩ h),sX]
   simp[dw]
theorem Eh (l:List aA):dw (gr l)=dw l:=by
 have:∀(m:List aA) (o:List aA),dw (m.foldl iF o)=dw o+dw m:=by
  intro m;induction m with
  | nil=>intro o;simp[dw]
  | cons e r a=>intro o;rw[rf,a,RO,dw];omega
 have h:=this l [];simpa[gr,dw] using h
theorem Mj (l:List aA)(e:aA):(iF l e).length<=l.length+1:=by grind [iF]
theorem BE (l:List aA):(gr l).length<=l.length:=by
 have:∀(m:List aA) (o:List aA),(m.foldl iF o).length<=o.length+m.length:=by
  intro m;induction m with
  | nil=>intro o;simp
  | cons e r a=>intro o;rw[rf];have b:=a (iF o e);have c:=Mj o e;simp only[bF];omega
 have h:=this l [];simpa[gr] using h
theorem O5 {p:aA->Prop}(f:∀b,p (dU b))(l:List aA)(h:∀e∈l,p e):∀e∈gr l,p e:=by
 have:∀(m:List aA) (o:List aA),(∀e∈o,p e)->(∀e∈m,p e)->∀e∈m.foldl iF o,p e:=by
  intro m;induction m with
  | nil=>intro o c _ e a;exact c e a
  | cons x r g =>
    intro o c d;rw[rf];refine g (iF o x) (fun e a=>?_) (fun e a=>d e (iN _ a));unfold iF at a;split at a
    . rcases eJ.1 a with a | a
      . exact c e (List.dropLast_subset o a)
      . rw[cW.1 a];exact f _
    . rcases eJ.1 a with a | a
      . exact c e a
      . rw[cW.1 a];exact d x (lO ..)
 exact this l [] (fun e a=>by cases a) h
