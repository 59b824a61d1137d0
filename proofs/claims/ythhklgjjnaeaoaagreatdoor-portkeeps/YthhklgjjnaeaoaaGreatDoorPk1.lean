/- Small texts, one behind the other: Mem, MemV, MemE, JnA, MemQ, MemL. -/
import Derived.Test.YthhklgjjnaeaoaaGreatDoorAl
import Derived.Test.YthhklgjjnaeaoaaGreatDoorAm
import Derived.WalkKit
import Derived.Laws.AppendOwnNone
import Derived.Maps.AppendAt
import Derived.Deep.Draws
open Go.Value renaming int->I,string->V,slice->Z
open Option renaming none->U,some->M
open Go renaming World->X
namespace Go.Proofs.YthhklgjjnaeaoaaGreatDoor
open Go.RowKit
theorem gy (B:Nat)(w:X):Below B w w.drew:=⟨rfl,rfl,rfl,aM _,fun _ _=>rfl⟩
def ig (l:av):List Value:=l.map fun b=>I .u8 (b.toNat:Int)
theorem gF (l:av):(ig l).length=l.length:=by simp[ig]
theorem mE (a b:av):ig (a++b)=ig a++ig b:=by simp[ig]
theorem sG (l:av):∀u∈ig l,u.oneCell'=true:=by
 intro u a;obtain⟨b,_,rfl⟩:=aN.1 a;rfl
theorem kF (l:av)(j:Nat)(h:j<l.length):(ig l)[j]? = M (I .u8 (l[j].toNat:Int)):=by
 simp[ig,h]
def gN (w:X)(ao:ak)(cap:Nat)(l:av):Prop :=
 l.length<=cap∧(ao=U->cap=0)∧∀j (hj:j<l.length),∃a,ao=M a∧w.cell? (a.add j)=M (I .u8 (l[j].toNat:Int))
theorem gN.cell {w:X}{a:Addr}{cap:Nat}{l:av}(h:gN w (M a) cap l)(j:Nat)(b:j<l.length):w.cell? (a.add j)=M (I .u8 (l[j].toNat:Int)):=by grind [gN]
theorem gN.some {w:X}{ao:ak}{cap:Nat}{l:av}(h:gN w ao cap l)(b:0<l.length):∃a,ao=M a:=by
 obtain⟨a,e,_⟩:=h.2.2 0 b;exact⟨a,e⟩
theorem gN.nil (w:X):gN w U 0 []:=⟨aM _,fun _=>rfl,fun j a=>by simp at a⟩
theorem gN.sH {w:X}{cap:Nat}{l:av}(h:gN w U cap l):l=[]∧cap=0:=by
 have a:=h.2.1 rfl;have b:=h.1;exact⟨dh (by omega),a⟩
theorem gN.lit {w:X}{ao:ak}{cap:Nat}{l:av}(h:gN w ao cap l)(c:0<l.length):∃b o,ao=M ⟨b,o,U⟩∧∀j (a:j<l.length),w.cell? ⟨b,o+j,U⟩=M (I .u8 (l[j].toNat:Int)):=by
 obtain⟨⟨b,o,d⟩,rfl,e⟩:=h.2.2 0 c;have f:d=U:=by simpa[Addr.add] using World.cell?_spot e
 subst f;refine⟨b,o,rfl,fun j a=>?_⟩;have:=h.cell j a;rwa[fQ] at this
theorem gN.move {w w':X}{ao:ak}{cap:Nat}{l:av}(h:gN w ao cap l)(b:∀a,ao=M a->∀v j,w.cell? (a.add j)=M v->w'.cell? (a.add j)=M v):gN w' ao cap l:=by grind [gN]
theorem add_block (a:Addr)(j:Nat):(a.add j).block=a.block:=by unfold Addr.add;split <;> rfl
theorem gN.grown {w w':X}{ao:ak}{cap:Nat}{l:av}{row:Option Nat}(h:gN w ao cap l)(b:w.grownBy w' row)(ha:∀a,ao=M a->M a.block≠row):gN w' ao cap l :=
 h.move fun a e v j c=>b.cell c (by rw[add_block];exact ha a e)
theorem gN.stay {w w':X}{ao:ak}{cap:Nat}{l:av}(h:gN w ao cap l)(c:Below w.heap.size w w'):gN w' ao cap l :=
 h.move fun a _ v j b=>by rw[c.cell (fH w _ b)];exact b
theorem gN.cut {w:X}{ao gJ:ak}{cap:Nat}{l:av}(h:gN w ao cap l)(b c:Nat)(o:b<=c)(p:c<=l.length)
 (g:cap≠b->gJ=ao.map (·.add b)):gN w gJ (cap-b) ((l.drop b).take (c-b)):=by
 have q:=h.1;have d:((l.drop b).take (c-b)).length=c-b:=by rw[bW,bT];omega
 refine⟨by omega,fun i=>?_,fun j k=>?_⟩
 . by_cases e:cap=b
   . omega
   . have:=g e;rw[i] at this;have m:=Option.map_eq_none_iff.1 this.symm;have:=h.2.1 m;omega
 . rw[d] at k;obtain⟨a,e,n⟩:=h.2.2 (b+j) (by omega);have f:cap≠b:=by omega
   refine⟨a.add b,by rw[g f,e];rfl,?_⟩;rw[Addr.add_add,n];simp
theorem gN.drewN {w:X}{ao:ak}{cap:Nat}{l:av}(h:gN w ao cap l)(n:Nat):gN (w.drewN n) ao cap l :=
 h.move (fun a _ v j b=>by rw[World.cell?_drewN];exact b)
theorem gN.first {w:X}{ao:ak}{cap:Nat}{l:av}(h:gN w ao cap l)(n:Nat)(a:n<=l.length):gN w ao cap (l.take n):=by
 have:=h.cut (gJ:=ao) 0 n (aA _) a (fun _=>by cases ao <;> simp[Addr.add]);simpa using this
theorem gN.str {P:Program}{w:World}{ao:ak}{cap:Nat}{l:av}(h:gN w ao cap l)(src dst e:TypeId)(hs:P.underlying src=Option.some (.slice e))(he:P.underlying e=Option.some (.int .u8))(hd:P.underlying dst=Option.some .string):
 (convert src dst (.slice ao l.length cap)).run P w=.ok (.string ⟨l.toArray⟩) w:=by
 cases ao with
 | none =>
   obtain⟨rfl,rfl⟩:=h.sH;rw[run_convert_bytes_string w src dst e none _ _ hs he hd];rfl
 | some a=>exact run_convert_bytes_back w src dst e a cap l hs he hd (fun j hj=>h.cell j hj)
def iA (w:X)(base t:Nat)(ao:ak)(cap:Nat)(l:av):Prop:=w.ownsRow base t 1 (Z ao l.length cap) l.length (ig l)
theorem iA.nil (w:X)(a t:Nat):iA w a t U 0 []:=World.ownsRow_nil _ _ _ _
theorem iA.of {w:X}{a t:Nat}{v:Value}{l:av}{n:Nat}(b:n=l.length)(h:w.ownsRow a t 1 v n (ig l)):∃ao cap,v=Z ao l.length cap∧iA w a t ao cap l:=by
 subst b;rcases h.2 with ⟨rfl,c⟩ | ⟨g,cap,d,rfl,_⟩
 . have e:l=[]:=dh c;subst e;exact⟨U,0,rfl,h⟩
 . exact⟨_,_,rfl,h⟩
theorem iA.tQ {w:X}{a t:Nat}{ao:ak}{cap:Nat}{l:av}(h:iA w a t ao cap l):gN w ao cap l:=by
 rcases h.2 with ⟨e,f⟩ | ⟨g,d,i,e,o,p,k,q,r,s⟩
 . injection e with b m c;subst b;subst c;rw[dh f];exact gN.nil w
 . injection e with b m c;subst b;subst c;refine⟨k,fun e=>by simp at e,fun j n=>⟨_,rfl,?_⟩⟩;exact World.ownsRow.cells h (g:=g) rfl j _ (kF l j n)
theorem iA.block {w:X}{b t:Nat}{ao:ak}{cap:Nat}{l:av}(h:iA w b t ao cap l)(a:Addr)(e:ao=M a):b<=a.block∧a.block<w.heap.size:=by
 subst e;exact World.ownsRow.lt h a.block rfl
theorem iA.head {w:X}{a t:Nat}{ao:ak}{cap:Nat}{l:av}(h:iA w a t ao cap l)(m:0<l.length):∃g,ao=M ⟨g,0,U⟩∧a<=g∧∀j (b:j<l.length),w.cell? ⟨g,j,U⟩=M (I .u8 (l[j].toNat:Int)):=by
 rcases h.2 with ⟨e,n⟩ | ⟨g,c,d,e,f,o,p,q,r,s⟩
 . omega
 . injection e with i u k;subst i;subst k;refine⟨g,rfl,f,fun j b=>?_⟩;have:=World.ownsRow.cells h (g:=g) rfl j _ (kF l j b);rwa[fQ,aZ] at this
theorem iA.kept {w w':X}{b t:Nat}{ao:ak}{cap:Nat}{l:av}{row:Option Nat}(h:iA w b t ao cap l)(c:w.grownBy w' row)(ha:∀a,ao=M a->M a.block≠row):iA w' b t ao cap l:=by
 refine World.ownsRow.kept h c ?_;cases ao with
 | none=>exact Or.inl rfl
 | some a=>exact Or.inr (ha a rfl)
theorem iA.below {w w':X}{b t:Nat}{ao:ak}{cap:Nat}{l:av}{B:Nat}(h:iA w b t ao cap l)(f:Below B w w')(ha:∀a,ao=M a->a.block<B):iA w' b t ao cap l:=by
 refine⟨h.1,?_⟩;rcases h.2 with i | ⟨g,c,d,e,j,k,r⟩
 . exact Or.inl i
 . refine Or.inr ⟨g,c,d,e,j,?_,r⟩;injection e with m n o;rw[f.block g (ha _ m)];exact k
theorem iA.mono {w:X}{b a t:Nat}{ao:ak}{cap:Nat}{l:av}(h:iA w b t ao cap l)(i:a<=b):iA w a t ao cap l:=by
 refine⟨h.1,?_⟩;rcases h.2 with f | ⟨g,c,d,e,j,r⟩
 . exact Or.inl f
 . exact Or.inr ⟨g,c,d,e,by omega,r⟩
theorem iA.alloc {w:X}{a t:Nat}{ao:ak}{cap:Nat}{l:av}(h:iA w a t ao cap l)(o:Obj):iA (w.alloc o) a t ao cap l:=World.ownsRow.alloc h o
theorem gN.alloc {w:X}{ao:ak}{cap:Nat}{l:av}(h:gN w ao cap l)(o:Obj):gN (w.alloc o) ao cap l:=h.grown (fJ w o U) (fun a _=>by simp)
theorem gN.one (w:X)(c:UInt8)(t:Nat)(b:Nat×Nat):gN (w.alloc (.cells #[I .u8 (c.toNat:Int)] t b)) (M ⟨w.heap.size,0,U⟩) 1 [c]:=by
 refine⟨aM _,fun e=>by simp at e,fun j a=>⟨_,rfl,?_⟩⟩;have e:j=0:=by simp at a;exact a
 subst e;rw[fQ,World.cell?_alloc_mark];rfl
theorem gN.ofRow (w:X)(s:ay)(cap t:Nat)(c:Nat×Nat)(a:s.size<=cap):gN (w.alloc (.cells (bytesRow s cap) t c)) (M ⟨w.heap.size,0,U⟩) cap s.data.toList:=by
 refine⟨by rw[aO];exact a,fun e=>by simp at e,fun j b=>⟨_,rfl,?_⟩⟩;rw[aO] at b;rw[fQ,World.cell?_alloc_mark,aZ,bytesRow_at s cap j b];simp
theorem Vp {P:Program}(W:X)(s:ay)(a b e:TypeId)(d:P.underlying a=M .string)(hd:P.underlying b=M (.slice e))(f:P.underlying e=M (.int .u8)):
 ∃cap c,(convert a b (V s)).run P W=.ok (Z (M ⟨W.heap.size,0,U⟩) s.size cap) c∧Below W.heap.size W c∧c.heap.size=W.heap.size+1∧gN c (M ⟨W.heap.size,0,U⟩) cap s.data.toList:=by
 refine⟨_,_,run_bytes_of_string (P:=P) W a b e s d hd f,((gy _ W).alloc (aM _) _),by simp,gN.ofRow W.drew s _ _ _ (grownCap_ge W s.size 0 e)⟩
def fV:ak->Option Nat
 | some a=>M a.block
 | none=>U
theorem gD (ao:ak)(n cap:Nat):(Value.slice ao n cap).ownBlock=fV ao:=by cases ao <;> rfl
theorem jM {a b c:X}{row:Option Nat}(h:a.grownBy b row)(k:b.grownBy c row):a.grownBy c row :=
 ⟨k.os.trans h.os,k.tape.trans h.tape,k.output.trans h.output,dB h.size k.size,fun i e d=>(k.block i (bZ e h.size) d).trans (h.block i e d)⟩
theorem AQ {a b:X}(row:Option Nat)(h:Below a.heap.size a b):a.grownBy b row:=⟨h.os,h.tape,h.output,h.size,fun i c _=>h.block i c⟩
theorem qD (w:X)(row:Option Nat):w.grownBy w.drew row:=⟨rfl,rfl,rfl,aM _,fun _ _ _=>rfl⟩
theorem jP {P:Program}{w:X}{q:Array Oper}{rest:List Oper}{o:Oper}{a:Act}{aai:Exit->Act->X->Prop}(r:o.guard=U)(s x:Operand)(t:TypeId)
 (G:o.op=.call { callee:=.builtin .append,args:=#[s,x],argTypes:=#[t,t] })
 (b:Nat) (e:TypeId) (i:TypeInfo) (H:P.underlying t=M (.slice e)) (L:P.info? e=M i) (hz:i.zero=M (I .u8 0)) (z:i.size=1) (B:i.bytes=1)
 {ao:ak} {cap n:Nat} {l:av} (N:a.eval s=Z ao n cap) (hn:l.length=n) (d:iA w b e ao cap l)
 {C:ak} {f y:Nat} {l2:av} (S:a.eval x=Z C y f) (D:l2.length=y) (k:gN w C f l2)
 (T:n+y<=140737488355328) (m:b<=w.heap.size)
 (h:∀gJ c w',iA w' b e gJ c (l++l2)->w.grownBy w' (fV ao)->(fV gJ=fV ao∨fV gJ=M w.heap.size)->wpList P q aai rest (a.put o.dst (Z gJ (n+y) c)) w'):wpList P q aai (o::rest) a w:=by
 subst hn;subst D;cases C with
 | none =>
   obtain⟨rfl,rfl⟩:=k.sH;refine wpList_append_own_none r s x t G b e i 1 H L _ l.length (ig l) N d S ?_;have:=h ao cap w (by rw[bU];exact d) ⟨rfl,rfl,rfl,aM _,fun _ _ _=>rfl⟩ (Or.inl rfl);simpa using this
 | some ad =>
   refine wpList_append_own_at w r s x t G b e i (I .u8 0) 1 1 H L hz z B rfl (by decide) _ l.length (ig l) N d ad l2.length f (ig l2) S (by rw[gF];omega) (fun j u v=>?_) (sG l2) (by unfold maxLen;omega) (by omega) m ?_
   . have W:j<l2.length:=by
      have:=(aQ.1 v).1;rwa[gF] at this
     rw[kF l2 j W] at v;injection v with v;subst v;exact k.cell j W
   . intro v' w' g hg _ p;rw[<-mE] at g;obtain⟨gJ,c,rfl,hB⟩:=iA.of (by simp) g;rw[gD] at hg p;rw[gD] at p;have:=h gJ c w' hB hg p;simpa using this
theorem jo {P:Program}{w:X}{g:Array Oper}{rest:List Oper}{o:Oper}{a:Act}{aai:Exit->Act->X->Prop}(q:o.guard=U)(s x:Operand)(t:TypeId)
 (z:o.op=.call { callee:=.builtin .append,args:=#[s,x],argTypes:=#[t,t] })
 (b:Nat) (e:TypeId) (i:TypeInfo) (B:P.underlying t=M (.slice e)) (C:P.info? e=M i) (D:i.zero=M (I .u8 0)) (r:i.size=1) (u:i.bytes=1)
 {ao:ak} {cap n:Nat} {l:av} (G:a.eval s=Z ao n cap) (H:l.length=n) (j:iA w b e ao cap l)
 {y:ak} {d p:Nat} {l2:av} (L:a.eval x=Z y p d) (v:l2.length=p) (k:gN w y d l2)
 (m:n+p<=140737488355328) (f:b<=w.heap.size)
 (h:∀gJ c w',iA w' b e gJ c (l++l2)->w.grownBy w' (fV ao)->wpList P g aai rest (a.put o.dst (Z gJ (n+p) c)) w'):wpList P g aai (o::rest) a w :=
 jP q s x t z b e i B C D r u G H j L v k m f (fun gJ c w' N S _=>h gJ c w' N S)
def ji (w:X)(ao:ak)(cap n:Nat)(xs:List Value):Prop :=
 n<=cap∧(ao=U->cap=0)∧∀j u,xs[j]? = M u->∃a,ao=M a∧w.cell? (a.add j)=M u
theorem ji.cell {w:X}{a:Addr}{cap n:Nat}{xs:List Value}(h:ji w (M a) cap n xs){j:Nat}{u:Value}(b:xs[j]? = M u):w.cell? (a.add j)=M u:=by grind [ji]
theorem ji.lit {w:X}{ao:ak}{cap n:Nat}{xs:List Value}(h:ji w ao cap n xs)(a:0<xs.length):∃b o,ao=M ⟨b,o,U⟩∧∀j u,xs[j]? = M u->w.cell? ⟨b,o+j,U⟩=M u:=by
 obtain⟨⟨b,o,c⟩,rfl,d⟩:=h.2.2 0 xs[0] (dz a);have e:c=U:=by simpa[Addr.add] using World.cell?_spot d
 subst e;refine⟨b,o,rfl,fun j u f=>?_⟩;have:=h.cell f;rwa[fQ] at this
theorem ji.nil (w:X):ji w U 0 0 []:=⟨aM _,fun _=>rfl,fun j u a=>by simp at a⟩
theorem ji.move {w w':X}{ao:ak}{cap n:Nat}{xs:List Value}(h:ji w ao cap n xs)(b:∀a,ao=M a->∀v j,w.cell? (a.add j)=M v->w'.cell? (a.add j)=M v):ji w' ao cap n xs:=by grind [ji]
theorem ji.stay {w w':X}{ao:ak}{cap n:Nat}{xs:List Value}(h:ji w ao cap n xs)(c:Below w.heap.size w w'):ji w' ao cap n xs :=
 h.move fun a _ v j b=>by rw[c.cell (fH w _ b)];exact b
theorem ji.grown {w w':X}{ao:ak}{cap n:Nat}{xs:List Value}{row:Option Nat}(h:ji w ao cap n xs)(b:w.grownBy w' row)(ha:∀a,ao=M a->M a.block≠row):ji w' ao cap n xs :=
 h.move fun a e v j c=>b.cell c (by rw[add_block];exact ha a e)
theorem ji.alloc {w:X}{ao:ak}{cap n:Nat}{xs:List Value}(h:ji w ao cap n xs)(o:Obj):ji (w.alloc o) ao cap n xs:=h.grown (fJ w o U) (fun a _=>by simp)
theorem ji.made (w:X)(a:Array Value)(n t:Nat)(b:Nat×Nat):ji (w.alloc (.cells a t b)) (M ⟨w.heap.size,0,U⟩) n n a.toList:=by
 refine⟨aM _,fun e=>by simp at e,fun j u c=>⟨_,rfl,?_⟩⟩;rw[fQ,World.cell?_alloc_mark,aZ];simpa using c
def gH (w:X)(base t k:Nat)(ao:ak)(cap n:Nat)(xs:List Value):Prop:=w.ownsRow base t k (Z ao n cap) n xs
theorem gH.nil (w:X)(a t k:Nat):gH w a t k U 0 0 []:=World.ownsRow_nil _ _ _ _
theorem gH.of {w:X}{a t k n:Nat}{v:Value}{xs:List Value}(h:w.ownsRow a t k v n xs):∃ao cap,v=Z ao n cap∧gH w a t k ao cap n xs:=by
 rcases h.2 with ⟨rfl,b⟩ | ⟨g,cap,c,rfl,_⟩
 . subst b;exact⟨U,0,rfl,h⟩
 . exact⟨_,_,rfl,h⟩
theorem gH.qE {w:X}{a t k:Nat}{ao:ak}{cap n:Nat}{xs:List Value}(h:gH w a t k ao cap n xs):ji w ao cap n xs:=by
 have d:=h.1;rcases h.2 with ⟨e,i⟩ | ⟨g,f,l,e,q,r,m,s,v,x⟩
 . injection e with b o c;subst b;subst c;subst i;rw[aY] at d;rw[dh d];exact ji.nil w
 . injection e with b o c;subst b;subst c;exact⟨m,fun e=>by simp at e,fun j u p=>⟨_,rfl,World.ownsRow.cells h (g:=g) rfl j u p⟩⟩
theorem gH.block {w:X}{b t k:Nat}{ao:ak}{cap n:Nat}{xs:List Value}(h:gH w b t k ao cap n xs)(a:Addr)(e:ao=M a):b<=a.block∧a.block<w.heap.size:=by
 subst e;exact World.ownsRow.lt h a.block rfl
theorem gH.below {w w':X}{b t k:Nat}{ao:ak}{cap n:Nat}{xs:List Value}{B:Nat}(h:gH w b t k ao cap n xs)(f:Below B w w')(ha:∀a,ao=M a->a.block<B):gH w' b t k ao cap n xs:=by
 refine⟨h.1,?_⟩;rcases h.2 with i | ⟨g,c,d,e,j,l,r⟩
 . exact Or.inl i
 . refine Or.inr ⟨g,c,d,e,j,?_,r⟩;injection e with m o p;rw[f.block g (ha _ m)];exact l
theorem gH.stay {w w':X}{b t k:Nat}{ao:ak}{cap n:Nat}{xs:List Value}(h:gH w b t k ao cap n xs)(c:Below w.heap.size w w'):gH w' b t k ao cap n xs:=h.below c (fun a e=>(h.block a e).2)
theorem iA.stay {w w':X}{b t:Nat}{ao:ak}{cap:Nat}{l:av}(h:iA w b t ao cap l)(c:Below w.heap.size w w'):iA w' b t ao cap l:=h.below c (fun a e=>(h.block a e).2)
theorem gH.mono {w:X}{b a t k:Nat}{ao:ak}{cap n:Nat}{xs:List Value}(h:gH w b t k ao cap n xs)(i:a<=b):gH w a t k ao cap n xs:=by
 refine⟨h.1,?_⟩;rcases h.2 with f | ⟨g,c,d,e,j,r⟩
 . exact Or.inl f
 . exact Or.inr ⟨g,c,d,e,by omega,r⟩
theorem gH.alloc {w:X}{a t k:Nat}{ao:ak}{cap n:Nat}{xs:List Value}(h:gH w a t k ao cap n xs)(o:Obj):gH (w.alloc o) a t k ao cap n xs:=World.ownsRow.alloc h o
theorem gP {P:Program}{w:X}{v:Array Oper}{rest:List Oper}{o:Oper}{a:Act}{aai:Exit->Act->X->Prop}(y:o.guard=U)(s x:Operand)(t:TypeId)
 (N:o.op=.call { callee:=.builtin .append,args:=#[s,x],argTypes:=#[t,t] })
 (b:Nat) (e:TypeId) (i:TypeInfo) (z:Value) (k bytes:Nat) (S:P.underlying t=M (.slice e)) (T:P.info? e=M i) (hz:i.zero=M z) (B:i.size=k) (C:i.bytes=bytes) (D:z.cells.size=k) (hk:0<k)
 {ao:ak} {cap n:Nat} {xs:List Value} (W:a.eval s=Z ao n cap) (d:gH w b e k ao cap n xs)
 {G:ak} {f l:Nat} {r:List Value} (hx:a.eval x=Z G l f) (g:ji w G f l r) (H:r.length=l*k) (h1:∀u∈r,u.oneCell'=true)
 (hlen:n+l<=9223372036854775807) (L:(n+l)*bytes<=140737488355328) (m:b<=w.heap.size)
 (h:∀gJ c w',gH w' b e k gJ c (n+l) (xs++r)->w.grownBy w' (fV ao)->(fV gJ=fV ao∨fV gJ=M w.heap.size)->wpList P v aai rest (a.put o.dst (Z gJ (n+l) c)) w'):wpList P v aai (o::rest) a w:=by
 cases G with
 | none =>
   have hc:=g.2.1 rfl;have hn:=g.1;obtain rfl:l=0:=by omega
   subst hc;rw[aY] at H;obtain rfl:r=[]:=dh H;refine wpList_append_own_none y s x t N b e i k S T _ n xs W d hx ?_;have:=h ao cap w (by rw[bU];exact d) ⟨rfl,rfl,rfl,aM _,fun _ _ _=>rfl⟩ (Or.inl rfl);simpa using this
 | some ad =>
   refine wpList_append_own_at w y s x t N b e i z k bytes S T hz B C D hk _ n xs W d ad l f r hx H (fun j u hu=>g.cell hu) h1 (by unfold maxLen;omega) L m ?_;intro v' w' p hg _ q;obtain⟨gJ,c,rfl,hB⟩:=gH.of p;rw[gD] at hg q;rw[gD] at q;exact h gJ c w' hB hg q
def BO (l:List ay):List Value:=l.map Value.string
theorem vC (l:List ay):(BO l).length=l.length:=by simp[BO]
theorem JX (a b:List ay):BO (a++b)=BO a++BO b:=by simp[BO]
theorem Ic (l:List ay)(j:Nat)(h:j<l.length):(BO l)[j]? = M (V l[j]):=by simp[BO,h]
def gG (l:au):List Value:=l.flatMap fun p=>[V p.1,V p.2]
theorem mF (l:au):(gG l).length=l.length*2:=by
 induction l with
 | nil=>rfl
 | cons p t a=>simp only[gG,aU,aV,aW,bY] at a ⊢;omega
theorem pW (a b:au):gG (a++b)=gG a++gG b:=by simp[gG]
theorem F3 (l:au):∀u∈gG l,u.oneCell'=true:=by
 intro u b;obtain⟨p,_,a⟩:=List.mem_flatMap.1 b;simp at a;rcases a with rfl | rfl <;> rfl
theorem mQ (l:au):∀j (h:j<l.length),(gG l)[j*2]? = M (V l[j].1)∧(gG l)[j*2+1]? = M (V l[j].2):=by
 induction l with
 | nil=>intro j h;simp at h
 | cons p t a =>
   intro j h;cases j with
   | zero=>exact⟨rfl,rfl⟩
   | succ j =>
     have:=a j (by simpa using h);have e:∀q,(gG (p::t))[(q+2)]? = (gG t)[q]?:=fun q=>rfl;rw[show(j+1)*2=j*2+2 by omega,show j*2+2+1=(j*2+1)+2 by omega,e,e];simpa using this
structure iH where
 kind:Int
 method:ay
 target:ay
 minor:Int
 fields:au
 length:Int
 bytes:av
 kK:ay
 ku:ay
 ptype:ay
 gT:av
 code:Int
structure EvS where
 fo:ak
 fZ:Nat
 bo:ak
 fU:Nat
 po:ak
 jh:Nat
def iH.cells (e:iH)(s:EvS):List Value:=[I .i64 e.kind,V e.method,V e.target,I .i64 e.minor,Z s.fo e.fields.length s.fZ,I .i64 e.length,Z s.bo e.bytes.length s.fU,V e.kK,V e.ku,V e.ptype,Z s.po e.gT.length s.jh,I .i64 e.code]
structure adk (w:X)(b o:Nat)(e:iH)(s:EvS):Prop where
 at_:∀j u,(e.cells s)[j]? = M u->w.cell? ⟨b,o+j,U⟩=M u
 fields:ji w s.fo s.fZ e.fields.length (gG e.fields)
 bytes:gN w s.bo s.fU e.bytes
 gT:gN w s.po s.jh e.gT
def afY (w:X)(ao:ak)(cap:Nat)(es:List iH):Prop :=
 es.length<=cap∧(ao=U->cap=0)∧∀j (hj:j<es.length),∃b o s,ao=M ⟨b,o,U⟩∧adk w b (o+j*12) es[j] s
end Go.Proofs.YthhklgjjnaeaoaaGreatDoor
namespace Go.Proofs.YthhklgjjnaeaoaaGreatDoor
def jC (b:av):iH:=⟨2,⟨#[]⟩,⟨#[]⟩,0,[],0,b,⟨#[]⟩,⟨#[]⟩,⟨#[]⟩,[],0⟩
def tailD (l:List iH):Bool :=
 match l.getLast? with
 | some x=>decide (x.kind=2)
 | none=>false
def qm (l:List iH):av :=
 match l.getLast? with
 | some x=>x.bytes
 | none=>[]
def sI (l:List iH)(e:iH):List iH:=if e.kind=2∧tailD l=true then l.dropLast++[jC (qm l++e.bytes)] else l++[e]
def lT (l:List iH):List iH:=l.foldl sI []
def lC:List iH->Nat
 | []=>0
 | e::r=>e.bytes.length+lC r
theorem qF (l:List iH)(e:iH):tailD (l++[e])=decide (e.kind=2):=by unfold tailD;rw[dX];simp
theorem qG (l:List iH)(e:iH):qm (l++[e])=e.bytes:=by unfold qm;rw[dX];simp
theorem qY {l:List iH}(h:tailD l=true):∃q x,l=q++[x]∧x.kind=2:=by
 rcases bB l with rfl | ⟨q,x,rfl⟩
 . cases h
 . rw[bD,qF] at h;exact⟨q,x,by rw[bD],cZ h⟩
theorem ow (q:List iH)(x e:iH)(a:x.kind=2)(b:e.kind=2):sI (q++[x]) e=q++[jC (x.bytes++e.bytes)]:=by grind [sI,jC,qF,qG]
theorem nk (l:List iH)(e:iH)(h:e.kind=2->tailD l=false):sI l e=l++[e]:=by grind [tailD,sI]
theorem C9 (l:List iH)(e:iH):lT (l++[e])=sI (lT l) e:=by unfold lT;rw[dY];rfl
theorem nE:∀a b:List iH,lC (a++b)=lC a+lC b:=by intro l;induction l <;> grind [lC]
theorem Vq:∀(l:List iH) (e:iH),e∈l->e.bytes.length<=lC l:=by intro l;induction l <;> grind [lC]
theorem Ie (l:List iH):(qm l).length<=lC l:=by
 rcases bB l with rfl | ⟨q,x,rfl⟩
 . exact aA _
 . rw[bD,qG];exact Vq _ x (by simp)
theorem Vr (l:List iH)(e:iH):lC (sI l e)=lC l+e.bytes.length:=by
 by_cases h:e.kind=2∧tailD l=true
 . obtain⟨q,x,rfl,a⟩:=qY h.2;rw[ow q x e a h.1,nE,nE];simp[lC,jC];omega
 . rw[nk l e (fun k=>by
    cases b:tailD l
    . rfl
    . exact absurd ⟨k,b⟩ h),nE]
   simp[lC]
theorem F4 (l:List iH):lC (lT l)=lC l:=by
 have:∀(m:List iH) (o:List iH),lC (m.foldl sI o)=lC o+lC m:=by
  intro m;induction m with
  | nil=>intro o;simp[lC]
  | cons e r a=>intro o;rw[dL,a,Vr,lC];omega
 have h:=this l [];simpa[lT,lC] using h
theorem JY (l:List iH)(e:iH):(sI l e).length<=l.length+1:=by grind [sI]
theorem tT (l:List iH):(lT l).length<=l.length:=by
 have:∀(m:List iH) (o:List iH),(m.foldl sI o).length<=o.length+m.length:=by
  intro m;induction m with
  | nil=>intro o;simp
  | cons e r a=>intro o;rw[dL];have b:=a (sI o e);have c:=JY o e;simp only[aW];omega
 have h:=this l [];simpa[lT] using h
theorem Rh {p:iH->Prop}(f:∀b,p (jC b))(l:List iH)(h:∀e∈l,p e):∀e∈lT l,p e:=by
 have:∀(m:List iH) (o:List iH),(∀e∈o,p e)->(∀e∈m,p e)->∀e∈m.foldl sI o,p e:=by
  intro m;induction m with
  | nil=>intro o c _ e a;exact c e a
  | cons x r g =>
    intro o c d;rw[dL];refine g (sI o x) (fun e a=>?_) (fun e a=>d e (cB _ a));unfold sI at a;split at a
    . rcases bq.1 a with a | a
      . exact c e (List.dropLast_subset o a)
      . rw[bA.1 a];exact f _
    . rcases bq.1 a with a | a
      . exact c e a
      . rw[bA.1 a];exact d x (cu ..)
 exact this l [] (fun e a=>by cases a) h
end Go.Proofs.YthhklgjjnaeaoaaGreatDoor
namespace Go.Proofs.YthhklgjjnaeaoaaGreatDoor
open Go.RowKit
end Go.Proofs.YthhklgjjnaeaoaaGreatDoor