import Derived.Test.YtodmelffkfbalaaGreatDoorAl
import Derived.Test.YtodmelffkfbalaaGreatDoorAm
import Derived.WalkKit
import Derived.Laws.AppendOwnNone
import Derived.Maps.AppendAt
import Derived.Deep.Draws
open Go.Value renaming int->I,string->V,slice->Z
open Option renaming none->U,some->M
open Go renaming World->X
namespace Go.Proofs.YtodmelffkfbalaaGreatDoor
open Go.RowKit
theorem bj (B:Nat)(w:X):Below B w w.drew:=⟨rfl,rfl,rfl,ak _,fun _ _=>rfl⟩
def bA (l:ab):List Value:=l.map fun b=>I .u8 (b.toNat:Int)
theorem dr (l:ab):(bA l).length=l.length:=by simp[bA]
theorem oQ (a b:ab):bA (a++b)=bA a++bA b:=by simp[bA]
theorem th (l:ab):∀u∈bA l,u.oneCell'=true:=by
 intro u a;obtain⟨b,_,rfl⟩:=my.1 a;rfl
theorem jM (l:ab)(j:Nat)(h:j<l.length):(bA l)[j]? = M (I .u8 (l[j].toNat:Int)):=by
 simp[bA,h]
def aB (w:X)(ao:ag)(cap:Nat)(l:ab):Prop :=
 l.length<=cap∧(ao=U->cap=0)∧∀j (hj:j<l.length),∃a,ao=M a∧w.cell? (a.add j)=M (I .u8 (l[j].toNat:Int))
theorem aB.j {w:X}{a:Addr}{cap:Nat}{l:ab}(h:aB w (M a) cap l)(j:Nat)(b:j<l.length):w.cell? (a.add j)=M (I .u8 (l[j].toNat:Int)):=by grind [aB]
theorem aB.oF {w:X}{ao:ag}{cap:Nat}{l:ab}(h:aB w ao cap l)(b:0<l.length):∃a,ao=M a:=by
 obtain⟨a,e,_⟩:=h.2.2 0 b;exact⟨a,e⟩
theorem aB.f (w:X):aB w U 0 []:=⟨ak _,fun _=>rfl,fun j a=>by simp at a⟩
theorem aB.jK {w:X}{cap:Nat}{l:ab}(h:aB w U cap l):l=[]∧cap=0:=by
 have a:=h.2.1 rfl;have b:=h.1;exact⟨ix (by omega),a⟩
theorem aB.r {w:X}{ao:ag}{cap:Nat}{l:ab}(h:aB w ao cap l)(c:0<l.length):∃b o,ao=M ⟨b,o,U⟩∧∀j (a:j<l.length),w.cell? ⟨b,o+j,U⟩=M (I .u8 (l[j].toNat:Int)):=by
 obtain⟨⟨b,o,d⟩,rfl,e⟩:=h.2.2 0 c;have f:d=U:=by simpa[Addr.add] using World.cell?_spot e
 subst f;refine⟨b,o,rfl,fun j a=>?_⟩;have:=h.j j a;rwa[ge] at this
theorem aB.mI {w w':X}{ao:ag}{cap:Nat}{l:ab}(h:aB w ao cap l)(b:∀a,ao=M a->∀v j,w.cell? (a.add j)=M v->w'.cell? (a.add j)=M v):aB w' ao cap l:=by grind [aB]
theorem oc (a:Addr)(j:Nat):(a.add j).block=a.block:=by unfold Addr.add;split <;> rfl
theorem aB.lI {w w':X}{ao:ag}{cap:Nat}{l:ab}{row:Option Nat}(h:aB w ao cap l)(b:w.grownBy w' row)(ha:∀a,ao=M a->M a.block≠row):aB w' ao cap l :=
 h.mI fun a e v j c=>b.cell c (by rw[oc];exact ha a e)
theorem aB.a {w w':X}{ao:ag}{cap:Nat}{l:ab}(h:aB w ao cap l)(c:Below w.heap.size w w'):aB w' ao cap l :=
 h.mI fun a _ v j b=>by rw[c.cell (bY w _ b)];exact b
theorem aB.G {w:X}{ao gL:ag}{cap:Nat}{l:ab}(h:aB w ao cap l)(b c:Nat)(o:b<=c)(p:c<=l.length)
 (g:cap≠b->gL=ao.map (·.add b)):aB w gL (cap-b) ((l.drop b).take (c-b)):=by
 have q:=h.1;have d:((l.drop b).take (c-b)).length=c-b:=by rw[bU,cO];omega
 refine⟨by omega,fun i=>?_,fun j k=>?_⟩
 . by_cases e:cap=b
   . omega
   . have:=g e;rw[i] at this;have m:=Option.map_eq_none_iff.1 this.symm;have:=h.2.1 m;omega
 . rw[d] at k;obtain⟨a,e,n⟩:=h.2.2 (b+j) (by omega);have f:cap≠b:=by omega
   refine⟨a.add b,by rw[g f,e];rfl,?_⟩;rw[Addr.add_add,n];simp
theorem aB.lH {w:X}{ao:ag}{cap:Nat}{l:ab}(h:aB w ao cap l)(n:Nat)(a:n<=l.length):aB w ao cap (l.take n):=by
 have:=h.G (gL:=ao) 0 n (ax _) a (fun _=>by cases ao <;> simp[Addr.add]);simpa using this
theorem aB.H {P:Program}{w:World}{ao:ag}{cap:Nat}{l:ab}(h:aB w ao cap l)(src dst e:TypeId)(hs:P.underlying src=Option.some (.slice e))(he:P.underlying e=Option.some (.int .u8))(hd:P.underlying dst=Option.some .string):
 (convert src dst (.slice ao l.length cap)).run P w=.ok (.string ⟨l.toArray⟩) w:=by
 cases ao with
 | none =>
   obtain⟨rfl,rfl⟩:=h.jK;rw[run_convert_bytes_string w src dst e none _ _ hs he hd];rfl
 | some a=>exact run_convert_bytes_back w src dst e a cap l hs he hd (fun j hj=>h.j j hj)
def bl (w:X)(base t:Nat)(ao:ag)(cap:Nat)(l:ab):Prop:=w.ownsRow base t 1 (Z ao l.length cap) l.length (bA l)
theorem bl.y (w:X)(a t:Nat):bl w a t U 0 []:=World.ownsRow_nil _ _ _ _
theorem bl.H {w:X}{a t:Nat}{v:Value}{l:ab}{n:Nat}(b:n=l.length)(h:w.ownsRow a t 1 v n (bA l)):∃ao cap,v=Z ao l.length cap∧bl w a t ao cap l:=by
 subst b;rcases h.2 with ⟨rfl,c⟩ | ⟨g,cap,d,rfl,_⟩
 . have e:l=[]:=ix c;subst e;exact⟨U,0,rfl,h⟩
 . exact⟨_,_,rfl,h⟩
theorem bl.f {w:X}{a t:Nat}{ao:ag}{cap:Nat}{l:ab}(h:bl w a t ao cap l):aB w ao cap l:=by
 rcases h.2 with ⟨e,f⟩ | ⟨g,d,i,e,o,p,k,q,r,s⟩
 . injection e with b m c;subst b;subst c;rw[ix f];exact aB.f w
 . injection e with b m c;subst b;subst c;refine⟨k,fun e=>by simp at e,fun j n=>⟨_,rfl,?_⟩⟩;exact World.ownsRow.cells h (g:=g) rfl j _ (jM l j n)
theorem bl.a {w:X}{b t:Nat}{ao:ag}{cap:Nat}{l:ab}(h:bl w b t ao cap l)(a:Addr)(e:ao=M a):b<=a.block∧a.block<w.heap.size:=by
 subst e;exact World.ownsRow.lt h a.block rfl
theorem bl.jK {w:X}{a t:Nat}{ao:ag}{cap:Nat}{l:ab}(h:bl w a t ao cap l)(m:0<l.length):∃g,ao=M ⟨g,0,U⟩∧a<=g∧∀j (b:j<l.length),w.cell? ⟨g,j,U⟩=M (I .u8 (l[j].toNat:Int)):=by
 rcases h.2 with ⟨e,n⟩ | ⟨g,c,d,e,f,o,p,q,r,s⟩
 . omega
 . injection e with i u k;subst i;subst k;refine⟨g,rfl,f,fun j b=>?_⟩;have:=World.ownsRow.cells h (g:=g) rfl j _ (jM l j b);rwa[ge,ee] at this
theorem bl.jY {w w':X}{b t:Nat}{ao:ag}{cap:Nat}{l:ab}{row:Option Nat}(h:bl w b t ao cap l)(c:w.grownBy w' row)(ha:∀a,ao=M a->M a.block≠row):bl w' b t ao cap l:=by
 refine World.ownsRow.kept h c ?_;cases ao with
 | none=>exact Or.inl rfl
 | some a=>exact Or.inr (ha a rfl)
theorem bl.below {w w':X}{b t:Nat}{ao:ag}{cap:Nat}{l:ab}{B:Nat}(h:bl w b t ao cap l)(f:Below B w w')(ha:∀a,ao=M a->a.block<B):bl w' b t ao cap l:=by
 refine⟨h.1,?_⟩;rcases h.2 with i | ⟨g,c,d,e,j,k,r⟩
 . exact Or.inl i
 . refine Or.inr ⟨g,c,d,e,j,?_,r⟩;injection e with m n o;rw[f.block g (ha _ m)];exact k
theorem bl.B {w:X}{a base' t:Nat}{ao:ag}{cap:Nat}{l:ab}(h:bl w a t ao cap l)(f:base'<=a):bl w base' t ao cap l:=by
 refine⟨h.1,?_⟩;rcases h.2 with d | ⟨g,b,c,e,i,r⟩
 . exact Or.inl d
 . exact Or.inr ⟨g,b,c,e,by omega,r⟩
theorem bl.r {w:X}{a t:Nat}{ao:ag}{cap:Nat}{l:ab}(h:bl w a t ao cap l)(o:Obj):bl (w.alloc o) a t ao cap l:=World.ownsRow.alloc h o
theorem aB.jY {w:X}{ao:ag}{cap:Nat}{l:ab}(h:aB w ao cap l)(o:Obj):aB (w.alloc o) ao cap l:=h.lI (re w o U) (fun a _=>by simp)
theorem aB.B (w:X)(c:UInt8)(t:Nat)(b:Nat×Nat):aB (w.alloc (.cells #[I .u8 (c.toNat:Int)] t b)) (M ⟨w.heap.size,0,U⟩) 1 [c]:=by
 refine⟨ak _,fun e=>by simp at e,fun j a=>⟨_,rfl,?_⟩⟩;have e:j=0:=by simp at a;exact a
 subst e;rw[ge,World.cell?_alloc_mark];rfl
theorem aB.uX (w:X)(s:ae)(cap t:Nat)(c:Nat×Nat)(a:s.size<=cap):aB (w.alloc (.cells (bytesRow s cap) t c)) (M ⟨w.heap.size,0,U⟩) cap s.data.toList:=by
 refine⟨by rw[cJ];exact a,fun e=>by simp at e,fun j b=>⟨_,rfl,?_⟩⟩;rw[cJ] at b;rw[ge,World.cell?_alloc_mark,ee,bytesRow_at s cap j b];simp
theorem EH {P:Program}(W:X)(s:ae)(a b e:TypeId)(d:P.underlying a=M .string)(hd:P.underlying b=M (.slice e))(f:P.underlying e=M (.int .u8)):
 ∃cap c,(convert a b (V s)).run P W=.ok (Z (M ⟨W.heap.size,0,U⟩) s.size cap) c∧Below W.heap.size W c∧c.heap.size=W.heap.size+1∧aB c (M ⟨W.heap.size,0,U⟩) cap s.data.toList:=by
 refine⟨_,_,run_bytes_of_string (P:=P) W a b e s d hd f,((bj _ W).alloc (ak _) _),by simp,aB.uX W.drew s _ _ _ (grownCap_ge W s.size 0 e)⟩
def aw:ag->Option Nat
 | some a=>M a.block
 | none=>U
theorem dq (ao:ag)(n cap:Nat):(Value.slice ao n cap).ownBlock=aw ao:=by cases ao <;> rfl
theorem og {a b c:X}{row:Option Nat}(h:a.grownBy b row)(k:b.grownBy c row):a.grownBy c row :=
 ⟨k.os.trans h.os,k.tape.trans h.tape,k.output.trans h.output,cq h.size k.size,fun i e d=>(k.block i (mC e h.size) d).trans (h.block i e d)⟩
theorem BW {a b:X}(row:Option Nat)(h:Below a.heap.size a b):a.grownBy b row:=⟨h.os,h.tape,h.output,h.size,fun i c _=>h.block i c⟩
theorem vJ (w:X)(row:Option Nat):w.grownBy w.drew row:=⟨rfl,rfl,rfl,ak _,fun _ _ _=>rfl⟩
theorem sM {P:Program}{w:X}{q:Array Oper}{rest:List Oper}{o:Oper}{a:Act}{aam:Exit->Act->X->Prop}(r:o.guard=U)(s x:Operand)(t:TypeId)
 (G:o.op=.call { callee:=.builtin .append,args:=#[s,x],argTypes:=#[t,t] })
 (b:Nat) (e:TypeId) (i:TypeInfo) (H:P.underlying t=M (.slice e)) (L:P.info? e=M i) (hz:i.zero=M (I .u8 0)) (z:i.size=1) (B:i.bytes=1)
 {ao:ag} {cap n:Nat} {l:ab} (N:a.eval s=Z ao n cap) (hn:l.length=n) (d:bl w b e ao cap l)
 {C:ag} {f y:Nat} {l2:ab} (S:a.eval x=Z C y f) (D:l2.length=y) (k:aB w C f l2)
 (T:n+y<=140737488355328) (m:b<=w.heap.size)
 (h:∀gL c w',bl w' b e gL c (l++l2)->w.grownBy w' (aw ao)->(aw gL=aw ao∨aw gL=M w.heap.size)->wpList P q aam rest (a.put o.dst (Z gL (n+y) c)) w'):wpList P q aam (o::rest) a w:=by
 subst hn;subst D;cases C with
 | none =>
   obtain⟨rfl,rfl⟩:=k.jK;refine wpList_append_own_none r s x t G b e i 1 H L _ l.length (bA l) N d S ?_;have:=h ao cap w (by rw[fK];exact d) ⟨rfl,rfl,rfl,ak _,fun _ _ _=>rfl⟩ (Or.inl rfl);simpa using this
 | some ad =>
   refine wpList_append_own_at w r s x t G b e i (I .u8 0) 1 1 H L hz z B rfl (by decide) _ l.length (bA l) N d ad l2.length f (bA l2) S (by rw[dr];omega) (fun j u v=>?_) (th l2) (by unfold maxLen;omega) (by omega) m ?_
   . have W:j<l2.length:=by
      have:=(fe.1 v).1;rwa[dr] at this
     rw[jM l2 j W] at v;injection v with v;subst v;exact k.j j W
   . intro v' w' g hg _ p;rw[<-oQ] at g;obtain⟨gL,c,rfl,hB⟩:=bl.H (by simp) g;rw[dq] at hg p;rw[dq] at p;have:=h gL c w' hB hg p;simpa using this
theorem oe {P:Program}{w:X}{g:Array Oper}{rest:List Oper}{o:Oper}{a:Act}{aam:Exit->Act->X->Prop}(q:o.guard=U)(s x:Operand)(t:TypeId)
 (z:o.op=.call { callee:=.builtin .append,args:=#[s,x],argTypes:=#[t,t] })
 (b:Nat) (e:TypeId) (i:TypeInfo) (B:P.underlying t=M (.slice e)) (C:P.info? e=M i) (D:i.zero=M (I .u8 0)) (r:i.size=1) (u:i.bytes=1)
 {ao:ag} {cap n:Nat} {l:ab} (G:a.eval s=Z ao n cap) (H:l.length=n) (j:bl w b e ao cap l)
 {y:ag} {d p:Nat} {l2:ab} (L:a.eval x=Z y p d) (v:l2.length=p) (k:aB w y d l2)
 (m:n+p<=140737488355328) (f:b<=w.heap.size)
 (h:∀gL c w',bl w' b e gL c (l++l2)->w.grownBy w' (aw ao)->wpList P g aam rest (a.put o.dst (Z gL (n+p) c)) w'):wpList P g aam (o::rest) a w :=
 sM q s x t z b e i B C D r u G H j L v k m f (fun gL c w' N S _=>h gL c w' N S)
def bq (w:X)(ao:ag)(cap n:Nat)(xs:List Value):Prop :=
 n<=cap∧(ao=U->cap=0)∧∀j u,xs[j]? = M u->∃a,ao=M a∧w.cell? (a.add j)=M u
theorem bq.y {w:X}{a:Addr}{cap n:Nat}{xs:List Value}(h:bq w (M a) cap n xs){j:Nat}{u:Value}(b:xs[j]? = M u):w.cell? (a.add j)=M u:=by grind [bq]
theorem bq.f {w:X}{ao:ag}{cap n:Nat}{xs:List Value}(h:bq w ao cap n xs)(a:0<xs.length):∃b o,ao=M ⟨b,o,U⟩∧∀j u,xs[j]? = M u->w.cell? ⟨b,o+j,U⟩=M u:=by
 obtain⟨⟨b,o,c⟩,rfl,d⟩:=h.2.2 0 xs[0] (iz a);have e:c=U:=by simpa[Addr.add] using World.cell?_spot d
 subst e;refine⟨b,o,rfl,fun j u f=>?_⟩;have:=h.y f;rwa[ge] at this
theorem bq.r (w:X):bq w U 0 0 []:=⟨ak _,fun _=>rfl,fun j u a=>by simp at a⟩
theorem bq.G {w w':X}{ao:ag}{cap n:Nat}{xs:List Value}(h:bq w ao cap n xs)(b:∀a,ao=M a->∀v j,w.cell? (a.add j)=M v->w'.cell? (a.add j)=M v):bq w' ao cap n xs:=by grind [bq]
theorem bq.a {w w':X}{ao:ag}{cap n:Nat}{xs:List Value}(h:bq w ao cap n xs)(c:Below w.heap.size w w'):bq w' ao cap n xs :=
 h.G fun a _ v j b=>by rw[c.cell (bY w _ b)];exact b
theorem bq.lH {w w':X}{ao:ag}{cap n:Nat}{xs:List Value}{row:Option Nat}(h:bq w ao cap n xs)(b:w.grownBy w' row)(ha:∀a,ao=M a->M a.block≠row):bq w' ao cap n xs :=
 h.G fun a e v j c=>b.cell c (by rw[oc];exact ha a e)
theorem bq.jY {w:X}{ao:ag}{cap n:Nat}{xs:List Value}(h:bq w ao cap n xs)(o:Obj):bq (w.alloc o) ao cap n xs:=h.lH (re w o U) (fun a _=>by simp)
theorem bq.j (w:X)(a:Array Value)(n t:Nat)(b:Nat×Nat):bq (w.alloc (.cells a t b)) (M ⟨w.heap.size,0,U⟩) n n a.toList:=by
 refine⟨ak _,fun e=>by simp at e,fun j u c=>⟨_,rfl,?_⟩⟩;rw[ge,World.cell?_alloc_mark,ee];simpa using c
theorem bq.H {w:X}{ao gL:ag}{cap n k:Nat}{xs:List Value}(h:bq w ao cap n xs)(b c:Nat)(q:b<=c)(r:c<=n)
 (i:cap≠b->gL=ao.map (·.add (b*k))):bq w gL (cap-b) (c-b) ((xs.drop (b*k)).take ((c-b)*k)):=by
 have s:=h.1;refine⟨by omega,fun l=>?_,fun j u d=>?_⟩
 . by_cases e:cap=b
   . omega
   . have:=i e;rw[l] at this;have m:=Option.map_eq_none_iff.1 this.symm;have:=h.2.1 m;omega
 . rw[List.getElem?_take] at d;split at d
   . rename_i f;rw[List.getElem?_drop] at d;obtain⟨a,e,o⟩:=h.2.2 _ u d;have g:cap≠b:=by
      intro e;have p:c-b=0:=by omega
      rw[p,pJ] at f;omega
     refine⟨a.add (b*k),by rw[i g,e];rfl,?_⟩;rw[Addr.add_add];exact o
   . simp at d
def aK (w:X)(base t k:Nat)(ao:ag)(cap n:Nat)(xs:List Value):Prop:=w.ownsRow base t k (Z ao n cap) n xs
theorem aK.y (w:X)(a t k:Nat):aK w a t k U 0 0 []:=World.ownsRow_nil _ _ _ _
theorem aK.lH {w:X}{a t k n:Nat}{v:Value}{xs:List Value}(h:w.ownsRow a t k v n xs):∃ao cap,v=Z ao n cap∧aK w a t k ao cap n xs:=by
 rcases h.2 with ⟨rfl,b⟩ | ⟨g,cap,c,rfl,_⟩
 . subst b;exact⟨U,0,rfl,h⟩
 . exact⟨_,_,rfl,h⟩
theorem aK.a {w:X}{a t k:Nat}{ao:ag}{cap n:Nat}{xs:List Value}(h:aK w a t k ao cap n xs):bq w ao cap n xs:=by
 have d:=h.1;rcases h.2 with ⟨e,i⟩ | ⟨g,f,l,e,q,r,m,s,v,x⟩
 . injection e with b o c;subst b;subst c;subst i;rw[pJ] at d;rw[ix d];exact bq.r w
 . injection e with b o c;subst b;subst c;exact⟨m,fun e=>by simp at e,fun j u p=>⟨_,rfl,World.ownsRow.cells h (g:=g) rfl j u p⟩⟩
theorem aK.f {w:X}{b t k:Nat}{ao:ag}{cap n:Nat}{xs:List Value}(h:aK w b t k ao cap n xs)(a:Addr)(e:ao=M a):b<=a.block∧a.block<w.heap.size:=by
 subst e;exact World.ownsRow.lt h a.block rfl
theorem aK.below {w w':X}{b t k:Nat}{ao:ag}{cap n:Nat}{xs:List Value}{B:Nat}(h:aK w b t k ao cap n xs)(f:Below B w w')(ha:∀a,ao=M a->a.block<B):aK w' b t k ao cap n xs:=by
 refine⟨h.1,?_⟩;rcases h.2 with i | ⟨g,c,d,e,j,l,r⟩
 . exact Or.inl i
 . refine Or.inr ⟨g,c,d,e,j,?_,r⟩;injection e with m o p;rw[f.block g (ha _ m)];exact l
theorem aK.B {w w':X}{b t k:Nat}{ao:ag}{cap n:Nat}{xs:List Value}(h:aK w b t k ao cap n xs)(c:Below w.heap.size w w'):aK w' b t k ao cap n xs:=h.below c (fun a e=>(h.f a e).2)
theorem bl.G {w w':X}{b t:Nat}{ao:ag}{cap:Nat}{l:ab}(h:bl w b t ao cap l)(c:Below w.heap.size w w'):bl w' b t ao cap l:=h.below c (fun a e=>(h.a a e).2)
theorem aK.r {w:X}{a base' t k:Nat}{ao:ag}{cap n:Nat}{xs:List Value}(h:aK w a t k ao cap n xs)(f:base'<=a):aK w base' t k ao cap n xs:=by
 refine⟨h.1,?_⟩;rcases h.2 with d | ⟨g,b,c,e,i,r⟩
 . exact Or.inl d
 . exact Or.inr ⟨g,b,c,e,by omega,r⟩
theorem aK.G {w:X}{a t k:Nat}{ao:ag}{cap n:Nat}{xs:List Value}(h:aK w a t k ao cap n xs)(o:Obj):aK (w.alloc o) a t k ao cap n xs:=World.ownsRow.alloc h o
theorem lO {P:Program}{w:X}{v:Array Oper}{rest:List Oper}{o:Oper}{a:Act}{aam:Exit->Act->X->Prop}(y:o.guard=U)(s x:Operand)(t:TypeId)
 (N:o.op=.call { callee:=.builtin .append,args:=#[s,x],argTypes:=#[t,t] })
 (b:Nat) (e:TypeId) (i:TypeInfo) (z:Value) (k bytes:Nat) (S:P.underlying t=M (.slice e)) (T:P.info? e=M i) (hz:i.zero=M z) (B:i.size=k) (C:i.bytes=bytes) (D:z.cells.size=k) (hk:0<k)
 {ao:ag} {cap n:Nat} {xs:List Value} (W:a.eval s=Z ao n cap) (d:aK w b e k ao cap n xs)
 {G:ag} {f l:Nat} {r:List Value} (hx:a.eval x=Z G l f) (g:bq w G f l r) (H:r.length=l*k) (h1:∀u∈r,u.oneCell'=true)
 (hlen:n+l<=9223372036854775807) (L:(n+l)*bytes<=140737488355328) (m:b<=w.heap.size)
 (h:∀gL c w',aK w' b e k gL c (n+l) (xs++r)->w.grownBy w' (aw ao)->(aw gL=aw ao∨aw gL=M w.heap.size)->wpList P v aam rest (a.put o.dst (Z gL (n+l) c)) w'):wpList P v aam (o::rest) a w:=by
 cases G with
 | none =>
   have hc:=g.2.1 rfl;have hn:=g.1;obtain rfl:l=0:=by omega
   subst hc;rw[pJ] at H;obtain rfl:r=[]:=ix H;refine wpList_append_own_none y s x t N b e i k S T _ n xs W d hx ?_;have:=h ao cap w (by rw[fK];exact d) ⟨rfl,rfl,rfl,ak _,fun _ _ _=>rfl⟩ (Or.inl rfl);simpa using this
 | some ad =>
   refine wpList_append_own_at w y s x t N b e i z k bytes S T hz B C D hk _ n xs W d ad l f r hx H (fun j u hu=>g.y hu) h1 (by unfold maxLen;omega) L m ?_;intro v' w' p hg _ q;obtain⟨gL,c,rfl,hB⟩:=aK.lH p;rw[dq] at hg q;rw[dq] at q;exact h gL c w' hB hg q
def fi (l:List ae):List Value:=l.map Value.string
theorem oR (l:List ae):(fi l).length=l.length:=by simp[fi]
theorem L4 (a b:List ae):fi (a++b)=fi a++fi b:=by simp[fi]
theorem pV (l:List ae)(j:Nat)(h:j<l.length):(fi l)[j]? = M (V l[j]):=by simp[fi,h]
def aI (l:aC):List Value:=l.flatMap fun p=>[V p.1,V p.2]
theorem sO (l:aC):(aI l).length=l.length*2:=by
 induction l with
 | nil=>rfl
 | cons p t a=>simp only[aI,ob,aD,bG,iv] at a ⊢;omega
theorem yg (a b:aC):aI (a++b)=aI a++aI b:=by simp[aI]
theorem D9 (l:aC):∀u∈aI l,u.oneCell'=true:=by
 intro u b;obtain⟨p,_,a⟩:=List.mem_flatMap.1 b;simp at a;rcases a with rfl | rfl <;> rfl
theorem om (l:aC):∀j (h:j<l.length),(aI l)[j*2]? = M (V l[j].1)∧(aI l)[j*2+1]? = M (V l[j].2):=by
 induction l with
 | nil=>intro j h;simp at h
 | cons p t a =>
   intro j h;cases j with
   | zero=>exact⟨rfl,rfl⟩
   | succ j =>
     have:=a j (by simpa using h);have e:∀q,(aI (p::t))[(q+2)]? = (aI t)[q]?:=fun q=>rfl;rw[show(j+1)*2=j*2+2 by omega,show j*2+2+1=(j*2+1)+2 by omega,e,e];simpa using this
structure az where
 b:Int
 i:ae
 j:ae
 m:Int
 d:aC
 l:Int
 a:ab
 g:ae
 e:ae
 h:ae
 c:ab
 k:Int
structure cU where
 e:ag
 f:Nat
 a:ag
 d:Nat
 c:ag
 b:Nat
def az.f (e:az)(s:cU):List Value:=[I .i64 e.b,V e.i,V e.j,I .i64 e.m,Z s.e e.d.length s.f,I .i64 e.l,Z s.a e.a.length s.d,V e.g,V e.e,V e.h,Z s.c e.c.length s.b,I .i64 e.k]
structure He (w:X)(b o:Nat)(e:az)(s:cU):Prop where
 a:∀j u,(e.f s)[j]? = M u->w.cell? ⟨b,o+j,U⟩=M u
 d:bq w s.e s.f e.d.length (aI e.d)
 c:aB w s.a s.d e.a
 f:aB w s.c s.b e.c
def Tz (w:X)(ao:ag)(cap:Nat)(es:List az):Prop :=
 es.length<=cap∧(ao=U->cap=0)∧∀j (hj:j<es.length),∃b o s,ao=M ⟨b,o,U⟩∧He w b (o+j*12) es[j] s
def dS (b:ab):az:=⟨2,⟨#[]⟩,⟨#[]⟩,0,[],0,b,⟨#[]⟩,⟨#[]⟩,⟨#[]⟩,[],0⟩
def jw (l:List az):Bool :=
 match l.getLast? with
 | some x=>decide (x.b=2)
 | none=>false
def ti (l:List az):ab :=
 match l.getLast? with
 | some x=>x.a
 | none=>[]
def iE (l:List az)(e:az):List az:=if e.b=2∧jw l=true then l.dropLast++[dS (ti l++e.a)] else l++[e]
def gr (l:List az):List az:=l.foldl iE []
def dx:List az->Nat
 | []=>0
 | e::r=>e.a.length+dx r
theorem vK (l:List az)(e:az):jw (l++[e])=decide (e.b=2):=by unfold jw;rw[sG];simp
theorem BA (l:List az)(e:az):ti (l++[e])=e.a:=by unfold ti;rw[sG];simp
theorem yh {l:List az}(h:jw l=true):∃q x,l=q++[x]∧x.b=2:=by
 rcases mz l with rfl | ⟨q,x,rfl⟩
 . cases h
 . rw[kW,vK] at h;exact⟨q,x,by rw[kW],sB h⟩
theorem sY (q:List az)(x e:az)(a:x.b=2)(b:e.b=2):iE (q++[x]) e=q++[dS (x.a++e.a)]:=by grind [iE,dS,vK,BA]
theorem rg (l:List az)(e:az)(h:e.b=2->jw l=false):iE l e=l++[e]:=by grind [jw,iE]
theorem CY (l:List az)(e:az):gr (l++[e])=iE (gr l) e:=by unfold gr;rw[sH];rfl
theorem sW:∀a b:List az,dx (a++b)=dx a+dx b:=by intro l;induction l <;> grind [dx]
theorem Rw:∀(l:List az) (e:az),e∈l->e.a.length<=dx l:=by intro l;induction l <;> grind [dx]
theorem LH (l:List az):(ti l).length<=dx l:=by
 rcases mz l with rfl | ⟨q,x,rfl⟩
 . exact ax _
 . rw[kW,BA];exact Rw _ x (by simp)
theorem Rx (l:List az)(e:az):dx (iE l e)=dx l+e.a.length:=by
 by_cases h:e.b=2∧jw l=true
 . obtain⟨q,x,rfl,a⟩:=yh h.2;rw[sY q x e a h.1,sW,sW];simp[dx,dS];omega
 . rw[rg l e (fun k=>by
    cases b:jw l
    . rfl
    . exact absurd ⟨k,b⟩ h),sW]
   simp[dx]
theorem Ea (l:List az):dx (gr l)=dx l:=by
 have:∀(m:List az) (o:List az),dx (m.foldl iE o)=dx o+dx m:=by
  intro m;induction m with
  | nil=>intro o;simp[dx]
  | cons e r a=>intro o;rw[qY,a,Rx,dx];omega
 have h:=this l [];simpa[gr,dx] using h
theorem L5 (l:List az)(e:az):(iE l e).length<=l.length+1:=by grind [iE]
theorem BE (l:List az):(gr l).length<=l.length:=by
 have:∀(m:List az) (o:List az),(m.foldl iE o).length<=o.length+m.length:=by
  intro m;induction m with
  | nil=>intro o;simp
  | cons e r a=>intro o;rw[qY];have b:=a (iE o e);have c:=L5 o e;simp only[bG];omega
 have h:=this l [];simpa[gr] using h
theorem OU {p:az->Prop}(f:∀b,p (dS b))(l:List az)(h:∀e∈l,p e):∀e∈gr l,p e:=by
 have:∀(m:List az) (o:List az),(∀e∈o,p e)->(∀e∈m,p e)->∀e∈m.foldl iE o,p e:=by
  intro m;induction m with
  | nil=>intro o c _ e a;exact c e a
  | cons x r g =>
    intro o c d;rw[qY];refine g (iE o x) (fun e a=>?_) (fun e a=>d e (iw _ a));unfold iE at a;split at a
    . rcases eC.1 a with a | a
      . exact c e (List.dropLast_subset o a)
      . rw[cY.1 a];exact f _
    . rcases eC.1 a with a | a
      . exact c e a
      . rw[cY.1 a];exact d x (lM ..)
 exact this l [] (fun e a=>by cases a) h
