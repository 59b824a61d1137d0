import Derived.Test.YtmbghcpcbdjfoaaGreatDoorPk8
import Derived.Test.YtmbghcpcbdjfoaaGreatDoorPk3
import Derived.Deep.AppendSrc
open Go.Value renaming int->I,string->V,slice->Z
open Go.Obj renaming cells->K
open Option renaming none->U,some->M
open Or renaming inl->A,inr->R
open Go renaming World->X
namespace Go.Proofs.YtmbghcpcbdjfoaaGreatDoor
open Go.RowKit
structure dZ (w:X)(base g cap:Nat)(l:ae):Prop where
 c:base<=g
 b:g<w.heap.size
 e:l.length<=cap
 f:cap<=maxLen
 d:∀j u,(bD l)[j]? = M u->w.cell? ⟨g,j,U⟩=M u
 a:∀j,j<cap->(w.cell? ⟨g,j,U⟩).isSome=true∧w.frozen? ⟨g,j,U⟩=false
section
variable {w w':X} {base g cap:Nat} {l:ae}
theorem dZ.r (h:dZ w base g cap l)(b:w'.heap[g]? = w.heap[g]?):dZ w' base g cap l:=by
 have c:g<w'.heap.size:=by
  have:(w'.heap[g]?).isSome=true:=by rw[b,ws h.b];rfl
  rcases fe g w'.heap.size with e | e
  . exact e
  . rw[Array.getElem?_eq_none e] at this;cases this
 exact⟨h.c,c,h.e,h.f,fun j u d=>by rw[wy (a:=⟨g,j,U⟩) b];exact h.d j u d,fun j d=>by rw[wy (a:=⟨g,j,U⟩) b,wA (a:=⟨g,j,U⟩) b];exact h.a j d⟩
theorem dZ.E {S:Nat->Prop}(h:dZ w base g cap l)(a:al S w w')(b:¬S g):dZ w' base g cap l:=h.r (a.c g h.b b)
theorem dZ.j (h:dZ w base g cap l)(a:Below w.heap.size w w'):dZ w' base g cap l:=h.r (a.block g h.b)
theorem dZ.y (h:dZ w base g cap l)(o:Obj):dZ (w.alloc o) base g cap l:=h.j ((aq _ _).alloc (ak _) o)
theorem dZ.q (h:dZ w base g cap l):ay w (M ⟨g,0,U⟩) cap l :=
 ⟨h.e,(fun e=>by cases e),fun j a=>⟨_,rfl,by rw[ga,dV];exact h.d j _ (lI l j a)⟩⟩
end
theorem gX (g:Nat):∀(a:List Value) (o:Nat) (w:X),al (fun k=>k=g) w (w.setCells g o a)
 | [],_,w=>al.r _ w
 | v::a,o,w=>(al.f (fun k=>k=g) w ⟨g,o,U⟩ v rfl).a (gX g a (o+1) _) (fun _ h _=>h)
theorem xR {P:Program}(W:X)(s:ag)(a b e:TypeId)(m:s.size<=maxLen)(n:P.underlying a=M .string)(hd:P.underlying b=M (.slice e))(o:P.underlying e=M (.int .u8)):
 ∃cap k,(convert a b (V s)).run P W=.ok (Z (M ⟨W.heap.size,0,U⟩) s.size cap) k∧Below W.heap.size W k∧dZ k W.heap.size W.heap.size cap s.data.toList:=by
 refine⟨_,_,run_bytes_of_string (P:=P) W a b e s n hd o,((bA _ W).alloc (ak _) _),?_⟩;have f:=grownCap_ge W s.size 0 e;have g:=grownCap_le_maxLen W s.size 0 e m;generalize grownCap W s.size 0 e=cap at f g ⊢;have i:(bytesRow s cap).size=cap:=by
  unfold bytesRow;have:s.data.size=s.size:=rfl;simp only[Array.size_append,Array.size_map,Array.size_replicate,this];omega
 refine⟨ak _,by simp,by rw[ep];exact f,g,fun j u c=>?_,fun j c=>⟨?_,?_⟩⟩
 . have d:j<s.data.toList.length:=by
    have:=(fB.1 c).1;rwa[dN] at this
   rw[lI _ j d] at c;injection c with c;subst c;have l:j<s.size:=by rw[ep] at d;exact d
   have:=World.cell?_alloc_mark W.drew (bytesRow s cap) e ((bytesRow s cap).size,(bytesRow s cap).size+1) j;refine this.trans ?_;rw[bytesRow_at s cap j l];simp
 . have:=World.cell?_alloc_mark W.drew (bytesRow s cap) e ((bytesRow s cap).size,(bytesRow s cap).size+1) j;rw[show(W.drew.alloc (K (bytesRow s cap) e ((bytesRow s cap).size,(bytesRow s cap).size+1))).cell? ⟨W.heap.size,j,U⟩=(bytesRow s cap)[j]? from this,ws (by rw[i];exact c)];rfl
 . refine(World.frozen?_alloc_mark W.drew (bytesRow s cap) e (bytesRow s cap).size ((bytesRow s cap).size+1) j).trans ?_;rw[aW (by rw[i];omega)];rfl
theorem KJ {P:Program}(w:X)(t z B e:TypeId)(i:TypeInfo)(N:P.underlying t=M (.slice e))(S:P.info? e=M i)(hz:i.zero=M (I .u8 0))(c:i.size=1)(C:i.bytes=1)
 {p g cap n:Nat} {l l2:ae} (h:dZ w p g cap l) (hn:l.length=n) (x:Value) (m:Nat) (D:Src P 1 z x m (bD l2) w) (T:n+m<=140737488355328) :
 ∃W b w',(Builtin.append_ #[t,z] B #[Z (M ⟨g,0,U⟩) n cap,x]).run P w=.ok (Z (M ⟨W,0,U⟩) (n+m) b) w'∧dZ w' p W b (l++l2)∧al (fun k=>k=g) w w':=by
 subst hn;have hl2:l2.length=m:=by have:=D.newsLen;rw[dN] at this;omega
 have hhl:=h.e;rcases fe cap (l.length+m) with d | d
 . have q:(Builtin.firstCells i.size l.length (Z (M ⟨g,0,U⟩) l.length cap)).run P w.drew=.ok (bD l).toArray w.drew :=
    run_firstCells_some w.drew i.size l.length ⟨g,0,U⟩ l.length cap (bD l) (by rw[dN,c];omega) (fun j u a=>by rw[ga,dV];exact h.d j u a)
   have r:=run_append_grow_src (P:=P) w t z B e i (I .u8 0) N S hz (M ⟨g,0,U⟩) l.length cap (bD l) q x m (bD l2) (by rw[c];exact D) d (by omega) (by rw[C];exact growslice_fits (by omega) (by omega));have G:=grownCap_ge w (l.length+m) cap e;have s:=grownCap_le_maxLen w (l.length+m) cap e (by unfold maxLen;omega);generalize grownCap w (l.length+m) cap e=b at r G s;have H:((bD l++bD l2).toArray++Builtin.zeroCells (Value.int .u8 0).cells (b-(l.length+m))).size=b:=by
    have c:(Value.int IntKind.u8 0).cells.size=1:=rfl;simp only[Array.size_append,cN,aF,dN,size_zeroCells,c];omega
   refine⟨_,_,_,r,⟨ce h.c (Nat.le_of_lt h.b),by simp,by rw[aF];omega,s,fun j u a=>?_,fun j a=>⟨?_,?_⟩⟩,⟨rfl,rfl,rfl,by simp,fun k L _=>Below.heap_alloc w.drew _ k L⟩⟩
   . rw[show(w.drew.alloc (K ((bD l++bD l2).toArray++Builtin.zeroCells (Value.int .u8 0).cells (b-(l.length+m))) e)).cell? ⟨w.heap.size,j,U⟩=_ from tP w.drew _ _ j];rw[tT] at a;rw[Array.getElem?_append_left (by rw[cN];exact(fB.1 a).1),mS];exact a
   . rw[show(w.drew.alloc (K ((bD l++bD l2).toArray++Builtin.zeroCells (Value.int .u8 0).cells (b-(l.length+m))) e)).cell? ⟨w.heap.size,j,U⟩=_ from tP w.drew _ _ j,ws (by rw[H];exact a)];rfl
   . exact(World.frozen?_alloc_mark w.drew _ e 0 0 j).trans (by simp)
 . have r:=run_append_room_src (P:=P) w t z B e i N S g 0 l.length cap x m (bD l2) (by rw[c];exact D) d (fun j a=>by rw[c,Nat.mul_one,dV];rw[dN] at a;exact(h.a _ (by omega)).1) (fun j a=>by rw[c,Nat.mul_one,dV];rw[dN] at a;exact(h.a _ (by omega)).2);rw[c,Nat.mul_one,dV] at r;have hT:=gX g (bD l2) l.length w;have v:=World.cell?_setCells_in g (bD l2) l.length w (fun j a=>by rw[dN] at a;exact(h.a _ (by omega)).1);have o:=World.cell?_setCells_out g (bD l2) l.length w;refine⟨_,_,_,r,⟨h.c,ml h.b hT.b,by rw[aF];omega,h.f,fun j u a=>?_,fun j a=>⟨?_,by rw[World.frozen?_setCells];exact(h.a j a).2⟩⟩,hT⟩
   . rw[tT] at a;rcases fe j l.length with f | f
     . rw[ql (by rw[dN];exact f)] at a;rw[o ⟨g,j,U⟩ (fun _ _=>A f)];exact h.d j u a
     . rw[qq (by rw[dN];exact f),dN] at a;obtain⟨k,rfl⟩:∃k,j=l.length+k:=⟨j-l.length,by omega⟩;rw[Nat.add_sub_cancel_left] at a;obtain⟨L,e⟩:=fB.1 a;rw[v k L,e]
   . rcases fe j l.length with f | f
     . rw[o ⟨g,j,U⟩ (fun _ _=>A f)];exact(h.a j a).1
     . rcases fe j (l.length+(bD l2).length) with y | y
       . obtain⟨k,rfl⟩:∃k,j=l.length+k:=⟨j-l.length,by omega⟩;rw[v k (by omega)];rfl
       . rw[o ⟨g,j,U⟩ (fun _ _=>R y)];exact(h.a j a).1
theorem Cm {P:Program}{w:X}{d:Array Oper}{rest:List Oper}{o:Oper}{a:Act}{aaf:Exit->Act->X->Prop}(q:o.guard=U)(s x:Operand)(t r:TypeId)
 (B:o.op=.call { callee:=.builtin .append,args:=#[s,x],argTypes:=#[t,r] })
 (e:TypeId) (i:TypeInfo) (C:P.underlying t=M (.slice e)) (D:P.info? e=M i) (G:i.zero=M (I .u8 0)) (u:i.size=1) (v:i.bytes=1)
 {c g cap n:Nat} {l l2:ae} (H:a.eval s=Z (M ⟨g,0,U⟩) n cap) (h:dZ w c g cap l) (L:l.length=n) (y:Value) (m:Nat) (N:a.eval x=y) (S:Src P 1 r y m (bD l2) w) (f:n+m<=140737488355328)
 (T:∀p b w',dZ w' c p b (l++l2)->al (fun k=>k=g) w w'->wpList P d aaf rest (a.put o.dst (Z (M ⟨p,0,U⟩) (n+m) b)) w'):wpList P d aaf (o::rest) a w:=by
 refine wpList_plain q fun W z=>?_;obtain⟨p,b,w',j,h1,h2⟩:=KJ (P:=P) w t r o.type e i C D G u v h L y m S f;unfold Oper.wp;simp[execOp,B,resolve,invoke,builtin,H,N,j,Result.andThen];exact z _ _ (T p b w' h1 h2)
theorem wY {P:Program}{a:TypeId}(b:P.underlying a=M .string)(s:ag)(w:X):Src P 1 a (V s) s.size (bD s.data.toList) w:=Src.ofString w b s
def yl:List Value->Nat->List Value->List Value
 | xs,_,[]=>xs
 | xs,o,v::r=>yl (xs.set o v) (o+1) r
theorem EX:∀(c a b:List Value),b.length=c.length->yl (a++b) a.length c=a++c
 | [], a, b, h => by
   have d:b=[]:=gW (by simpa using h);rw[d];rfl
 | v::r,a,[],h=>by simp at h
 | v :: r, a, u :: b, h => by
   show yl ((a++u::b).set a.length v) (a.length+1) r=a++v::r;have e:(a++u::b).set a.length v=(a++[v])++b:=by
    rw[tC _ _ (ak _),Nat.sub_self];simp
   rw[e];have:=EX r (a++[v]) b (by simpa using h);rw[aF] at this;rw[show a.length+1=a.length+[v].length from rfl,this];simp
theorem aG.B {a t k cap n g:Nat}:∀(b:List Value) (o:Nat) (w:X) (xs:List Value),aG w a t k (M ⟨g,0,U⟩) cap n xs->aG (w.setCells g o b) a t k (M ⟨g,0,U⟩) cap n (yl xs o b)
 | [],_,_,_,h=>h
 | v::r,o,_,_,h=>aG.B r (o+1) _ _ (oE h o v).1
section
variable {w w1:X} {S:Nat->Prop} {tE tb:Nat} {cap:Nat}
theorem gE.y {q:List (az×cJ)}{e:az}{s:cJ}{g:Nat}{l:ae}{bo:ai}{gF:Nat}
 (own:aG w 0 tE 12 (M ⟨g,0,U⟩) cap (q.length+1) (cB (q++[(e,s)]))) (d:S g)
 (ahead:∀p∈q,eI w (fun k=>(S k∧k≠g)∧ez e s≠M k) p.1 p.2)
 (bytes:bM w (fun k=>S k∧k≠g) tb s.a s.b e.a)
 (t:bM w1 (fun k=>ez e s=M k∨w.heap.size<=k) tb bo gF l) (i:al (fun k=>ez e s=M k) w w1) :
 gE (w1.setCells g (q.length*12) ((dW l).d ⟨U,0,bo,gF,U,0⟩)) (aB S w) tE tb (M ⟨g,0,U⟩) cap (q.map (·.1)++[dW l])∧al S w (w1.setCells g (q.length*12) ((dW l).d ⟨U,0,bo,gF,U,0⟩)):=by
 have b:∀k,ez e s=M k->S k∧k≠g:=fun k h=>by
  unfold ez at h;split at h
  . cases h
  . rcases bytes with ⟨_,_,j⟩ | ⟨v,_⟩
    . cases c:s.a with
      | none=>rw[c] at h;cases h
      | some a=>rw[c] at h;injection h with h;subst h;exact j a c
    . contradiction
 have x:g<w.heap.size:=(own.d _ rfl).2;have m:al (fun k=>k=g) w1 (w1.setCells g (q.length*12) ((dW l).d ⟨U,0,bo,gF,U,0⟩)):=gX g _ _ w1;have y:al S w (w1.setCells g (q.length*12) ((dW l).d ⟨U,0,bo,gF,U,0⟩)):=(i.e (fun k e=>(b k e).1)).a (m.e (fun k e=>by rw[e];exact d)) (fun _ e _=>e);have z:aG w1 0 tE 12 (M ⟨g,0,U⟩) cap (q.length+1) (cB (q++[(e,s)])):=own.e i (fun a e h=>by injection e with e;subst e;exact(b _ h).2 rfl);have u:=aG.B ((dW l).d ⟨U,0,bo,gF,U,0⟩) (q.length*12) w1 _ z;have B:cB (q++[(e,s)])=cB q++e.d s:=by rw[tW];simp[cB]
 have n:cB (q++[(dW l,(⟨U,0,bo,gF,U,0⟩:cJ))])=cB q++(dW l).d ⟨U,0,bo,gF,U,0⟩:=by rw[tW];simp[cB]
 have f:=EX ((dW l).d ⟨U,0,bo,gF,U,0⟩) (cB q) (e.d s) rfl;rw[tV] at f;rw[B,f,<-n] at u;refine⟨?_,y⟩;have o:∀k,ez (dW l) ⟨U,0,bo,gF,U,0⟩=M k->ez e s=M k∨w.heap.size<=k:=fun k h=>by
  unfold ez dW at h;simp only at h;split at h
  . cases h
  . rcases t with ⟨_,_,j⟩ | ⟨v,_⟩
    . cases c:bo with
      | none=>rw[c] at h;cases h
      | some a=>rw[c] at h;injection h with h;subst h;exact j a c
    . contradiction
 have r:∀k,k<w.heap.size->((S k∧k≠g)∧ez e s≠M k)->((aB S w k∧k≠g)∧ez (dW l) ⟨U,0,bo,gF,U,0⟩≠M k)∧ez e s≠M k:=fun k D h=>⟨⟨⟨A h.1.1,h.1.2⟩,fun n=>by
  rcases o k n with f | f
  . exact h.2 f
  . omega⟩,h.2⟩
 refine .laid q (dW l) ⟨U,0,bo,gF,U,0⟩ g cap u (A d) (fun p C=>?_) (jz.a _ _) (dO.e _ _) ?_
 . exact(((ahead p C).a r).d i (fun k h=>h.2)).d m (fun k h=>h.1.1.2) |>.a (fun k _ h=>h.1)
 . refine(t.e (S':=fun k=>aB S w k∧k≠g) (fun k _ h=>?_)).a m (fun k h=>h.2);rcases h with h | h
   . exact⟨A (b k h).1,(b k h).2⟩
   . exact⟨R h,by omega⟩
end
theorem Od {P:Program}{d g:TypeId}(e:P.underlying d=M (.slice g)){W:X}{bo:ai}{cap n:Nat}{b:ae}(h:ay W bo cap b)(i:b.length=n):Src P 1 d (Z bo n cap) n (bD b) W:=by
 subst i;cases bo with
 | none =>
   obtain⟨rfl,rfl⟩:=h.E;exact Src.ofNil _ e 0
 | some a =>
   refine Src.ofSlice _ e a _ cap _ (by rw[dN];omega) (fun j u c=>?_) (wP b);have f:j<b.length:=by
    have:=(fB.1 c).1;rwa[dN] at this
   rw[lI b j f] at c;injection c with c;subst c;exact h.q j f
theorem IK {P:Program}(w:X)(t z C e:TypeId)(i:TypeInfo)(S:P.underlying t=M (.slice e))(T:P.info? e=M i)(hz:i.zero=M (I .u8 0))(c:i.size=1)(D:i.bytes=1)
 {p g cap n:Nat} {l l2:ae} (h:dZ w p g cap l) (hn:l.length=n) (x:Value) (m:Nat) (G:Src P 1 z x m (bD l2) w) (W:n+m<=140737488355328) :
 ∃B b w',(Builtin.append_ #[t,z] C #[Z (M ⟨g,0,U⟩) n cap,x]).run P w=.ok (Z (M ⟨B,0,U⟩) (n+m) b) w'∧dZ w' p B b (l++l2)∧al (fun k=>k=g) w w'∧(B=g∨B=w.heap.size):=by
 subst hn;have hl2:l2.length=m:=by have:=G.newsLen;rw[dN] at this;omega
 have hhl:=h.e;rcases fe cap (l.length+m) with d | d
 . have q:(Builtin.firstCells i.size l.length (Z (M ⟨g,0,U⟩) l.length cap)).run P w.drew=.ok (bD l).toArray w.drew :=
    run_firstCells_some w.drew i.size l.length ⟨g,0,U⟩ l.length cap (bD l) (by rw[dN,c];omega) (fun j u a=>by rw[ga,dV];exact h.d j u a)
   have r:=run_append_grow_src (P:=P) w t z C e i (I .u8 0) S T hz (M ⟨g,0,U⟩) l.length cap (bD l) q x m (bD l2) (by rw[c];exact G) d (by omega) (by rw[D];exact growslice_fits (by omega) (by omega));have H:=grownCap_ge w (l.length+m) cap e;have s:=grownCap_le_maxLen w (l.length+m) cap e (by unfold maxLen;omega);generalize grownCap w (l.length+m) cap e=b at r H s;have L:((bD l++bD l2).toArray++Builtin.zeroCells (Value.int .u8 0).cells (b-(l.length+m))).size=b:=by
    have c:(Value.int IntKind.u8 0).cells.size=1:=rfl;simp only[Array.size_append,cN,aF,dN,size_zeroCells,c];omega
   refine⟨_,_,_,r,⟨ce h.c (Nat.le_of_lt h.b),by simp,by rw[aF];omega,s,fun j u a=>?_,fun j a=>⟨?_,?_⟩⟩,⟨rfl,rfl,rfl,by simp,fun k N _=>Below.heap_alloc w.drew _ k N⟩,R rfl⟩
   . rw[show(w.drew.alloc (K ((bD l++bD l2).toArray++Builtin.zeroCells (Value.int .u8 0).cells (b-(l.length+m))) e)).cell? ⟨w.heap.size,j,U⟩=_ from tP w.drew _ _ j];rw[tT] at a;rw[Array.getElem?_append_left (by rw[cN];exact(fB.1 a).1),mS];exact a
   . rw[show(w.drew.alloc (K ((bD l++bD l2).toArray++Builtin.zeroCells (Value.int .u8 0).cells (b-(l.length+m))) e)).cell? ⟨w.heap.size,j,U⟩=_ from tP w.drew _ _ j,ws (by rw[L];exact a)];rfl
   . exact(World.frozen?_alloc_mark w.drew _ e 0 0 j).trans (by simp)
 . have r:=run_append_room_src (P:=P) w t z C e i S T g 0 l.length cap x m (bD l2) (by rw[c];exact G) d (fun j a=>by rw[c,Nat.mul_one,dV];rw[dN] at a;exact(h.a _ (by omega)).1) (fun j a=>by rw[c,Nat.mul_one,dV];rw[dN] at a;exact(h.a _ (by omega)).2);rw[c,Nat.mul_one,dV] at r;have hT:=gX g (bD l2) l.length w;have v:=World.cell?_setCells_in g (bD l2) l.length w (fun j a=>by rw[dN] at a;exact(h.a _ (by omega)).1);have o:=World.cell?_setCells_out g (bD l2) l.length w;refine⟨_,_,_,r,⟨h.c,ml h.b hT.b,by rw[aF];omega,h.f,fun j u a=>?_,fun j a=>⟨?_,by rw[World.frozen?_setCells];exact(h.a j a).2⟩⟩,hT,A rfl⟩
   . rw[tT] at a;rcases fe j l.length with f | f
     . rw[ql (by rw[dN];exact f)] at a;rw[o ⟨g,j,U⟩ (fun _ _=>A f)];exact h.d j u a
     . rw[qq (by rw[dN];exact f),dN] at a;obtain⟨k,rfl⟩:∃k,j=l.length+k:=⟨j-l.length,by omega⟩;rw[Nat.add_sub_cancel_left] at a;obtain⟨N,e⟩:=fB.1 a;rw[v k N,e]
   . rcases fe j l.length with f | f
     . rw[o ⟨g,j,U⟩ (fun _ _=>A f)];exact(h.a j a).1
     . rcases fe j (l.length+(bD l2).length) with y | y
       . obtain⟨k,rfl⟩:∃k,j=l.length+k:=⟨j-l.length,by omega⟩;rw[v k (by omega)];rfl
       . rw[o ⟨g,j,U⟩ (fun _ _=>R y)];exact(h.a j a).1
theorem Cl {P:Program}{w:X}{f:Array Oper}{rest:List Oper}{o:Oper}{a:Act}{aaf:Exit->Act->X->Prop}(q:o.guard=U)(s x:Operand)(t r:TypeId)
 (B:o.op=.call { callee:=.builtin .append,args:=#[s,x],argTypes:=#[t,r] })
 (e:TypeId) (i:TypeInfo) (C:P.underlying t=M (.slice e)) (D:P.info? e=M i) (G:i.zero=M (I .u8 0)) (u:i.size=1) (v:i.bytes=1)
 {c g cap n:Nat} {l l2:ae} (H:a.eval s=Z (M ⟨g,0,U⟩) n cap) (h:dZ w c g cap l) (L:l.length=n) (y:Value) (p:Nat) (N:a.eval x=y) (S:Src P 1 r y p (bD l2) w) (j:n+p<=140737488355328)
 (T:∀d b w',dZ w' c d b (l++l2)->al (fun k=>k=g) w w'->(d=g∨d=w.heap.size)->wpList P f aaf rest (a.put o.dst (Z (M ⟨d,0,U⟩) (n+p) b)) w'):wpList P f aaf (o::rest) a w:=by
 refine wpList_plain q fun W z=>?_;obtain⟨d,b,w',m,h1,h2,h3⟩:=IK (P:=P) w t r o.type e i C D G u v h L y p S j;unfold Oper.wp;simp[execOp,B,resolve,invoke,builtin,H,N,m,Result.andThen];exact z _ _ (T d b w' h1 h2 h3)
def nX (ao:ai)(cap:Nat)(l:ae):dC:=fun w S=>(ao=U∧cap=0∧l=[])∨∃g,ao=M ⟨g,0,U⟩∧dZ w 0 g cap l∧S g
theorem nX.a (ao:ai)(cap:Nat)(l:ae):bQ (nX ao cap l) where
 b h ht hs:=by
  rcases h with h | ⟨g,e,a,b⟩
  . exact A h
  . exact R ⟨g,e,a.E ht (hs g b),b⟩
 c h hs:=by
  rcases h with h | ⟨g,e,a,b⟩
  . exact A h
  . exact R ⟨g,e,a,hs g a.b b⟩
theorem nX.d (w:X)(S:Nat->Prop):nX U 0 [] w S:=A ⟨rfl,rfl,rfl⟩
theorem nX.e {ao:ai}{cap:Nat}{l:ae}{w:X}{S:Nat->Prop}(h:nX ao cap l w S):ay w ao cap l:=by
 rcases h with ⟨rfl,rfl,rfl⟩ | ⟨g,rfl,a,_⟩
 . exact ay.d w
 . exact a.q
theorem LE {P:Program}(w:X)(t q v e:TypeId)(i:TypeInfo)(C:P.underlying t=M (.slice e))(D:P.info? e=M i)(G:i.zero=M (I .u8 0))(d:i.size=1)(f:i.bytes=1)
 {S:Nat->Prop} {ao:ai} {cap n:Nat} {l l2:ae} (h:nX ao cap l w S) (H:l.length=n) (x:Value) (c:Nat) (hp:0<c) (y:Src P 1 q x c (bD l2) w) (b:n+c<=140737488355328) :
 ∃gQ a w',(Builtin.append_ #[t,q] v #[Z ao n cap,x]).run P w=.ok (Z gQ (n+c) a) w'∧nX gQ a (l++l2) w' (aB S w)∧al S w w':=by
 rcases h with ⟨rfl,rfl,rfl⟩ | ⟨g,rfl,N,L⟩
 . subst H;have T:l2.length=c:=by have:=y.newsLen;rw[dN] at this;omega
   have m:(Builtin.firstCells i.size 0 (Z U 0 0)).run P w.drew=.ok ([]:List Value).toArray w.drew:=by simp[Builtin.firstCells]
   have r:=run_append_grow_src (P:=P) w t q v e i (I .u8 0) C D G U 0 0 [] m x c (bD l2) (by rw[d];exact y) (by omega) (by simp at b;omega) (by rw[f];simp at b;exact growslice_fits (by omega) (by omega));have z:=grownCap_ge w (0+c) 0 e;have o:=grownCap_le_maxLen w (0+c) 0 e (by unfold maxLen;simp at b;omega);generalize grownCap w (0+c) 0 e=a at r z o;have B:((([]:List Value)++bD l2).toArray++Builtin.zeroCells (Value.int .u8 0).cells (a-(0+c))).size=a:=by
    have d:(Value.int IntKind.u8 0).cells.size=1:=rfl;simp only[Array.size_append,cN,aF,lD,dN,size_zeroCells,d];omega
   refine⟨_,_,_,r,R ⟨w.heap.size,rfl,⟨ax _,by simp,by rw[jo];omega,o,fun j u p=>?_,fun j p=>⟨?_,?_⟩⟩,R (ak _)⟩,⟨rfl,rfl,rfl,by simp,fun k W _=>Below.heap_alloc w.drew _ k W⟩⟩
   . rw[show(w.drew.alloc (K ((([]:List Value)++bD l2).toArray++Builtin.zeroCells (Value.int .u8 0).cells (a-(0+c))) e)).cell? ⟨w.heap.size,j,U⟩=_ from tP w.drew _ _ j];rw[jo] at p;rw[Array.getElem?_append_left (by rw[cN];exact(fB.1 p).1),mS];exact p
   . rw[show(w.drew.alloc (K ((([]:List Value)++bD l2).toArray++Builtin.zeroCells (Value.int .u8 0).cells (a-(0+c))) e)).cell? ⟨w.heap.size,j,U⟩=_ from tP w.drew _ _ j,ws (by rw[B];exact p)];rfl
   . exact(World.frozen?_alloc_mark w.drew _ e 0 0 j).trans (by simp)
 . obtain⟨g',a,w',r,h1,h2,s⟩:=IK (P:=P) w t q v e i C D G d f N H x c y b;refine⟨_,a,w',r,R ⟨g',rfl,h1,?_⟩,h2.e (fun k e=>by rw[e];exact L)⟩;rcases s with s | s
   . rw[s];exact A L
   . exact R (by omega)
theorem JA {P:Program}{w:X}{d:Array Oper}{o:Oper}{a:Act}{f:Act->X->Prop}{aaf:Exit->Act->X->Prop}{E:Prop}(j:o.guard=U)(s x:Operand)(t u:TypeId)(q:o.op=.call { callee:=.builtin .append,args:=#[s,x],argTypes:=#[t,u] })
 (e:TypeId) (i:TypeInfo) (r:P.underlying t=M (.slice e)) (v:P.underlying u=M .string) (y:P.info? e=M i) (z:i.zero=M (I .u8 0)) (m:i.size=1) (p:i.bytes=1)
 {S:Nat->Prop} {ao:ai} {cap n:Nat} {l:ae} (B:a.eval s=Z ao n cap) (C:l.length=n) (D:nX ao cap l w S) (c:ag) (k:Nat) (G:c.size=k) (H:0<k) (L:a.eval x=V c) (g:n+k<=140737488355328)
 (h:∀gQ b w',nX gQ b (l++c.data.toList) w' (aB S w)->al S w w'->f (a.put o.dst (Z gQ (n+k) b)) w') :
 if Region.wanted o (yielded d a.tmps)=true then Oper.wp P o a w f aaf else E:=by
 have N:Region.wanted o (yielded d a.tmps)=true:=by simp[Region.wanted,j]
 rw[if_pos N];subst G;obtain⟨gQ,b,w',T,W,h2⟩:=LE (P:=P) w t u o.type e i r y z m p D C (V c) c.size H (wY v c w) g;unfold Oper.wp execOp;simp only[q,resolve,invoke,builtin,Sem.run_bind,Sem.run_pure,Result.andThen_ok,List.map_toArray,List.map_cons,List.map_nil,B,L,T];exact h gQ b w' W h2
def kJ (w:X)(base tE:Nat)(ao:ai)(cap:Nat)(es:List az):Prop :=
 ∃ps:List (az×cJ),ps.map (·.1)=es∧aG w base tE 12 ao cap es.length (cB ps)∧∀p∈ps,eI w (fun k=>base<=k∧au ao≠M k) p.1 p.2
section
variable {w w':X} {base tE tb:Nat} {ao gQ:ai} {cap cap' n:Nat} {es:List az}
theorem kJ.f (w:X)(base tE:Nat):kJ w base tE U 0 []:=⟨[],rfl,aG.f _ _ _ _,fun p a=>(by cases a)⟩
theorem kJ.q (h:kJ w base tE ao cap es)(a:Below w.heap.size w w'):kJ w' base tE ao cap es:=by
 obtain⟨b,c,d,f⟩:=h;exact⟨b,c,d.r a,fun p g=>(f p g).d (al.d (S:=fun _=>False) a) (fun _ _ e=>e)⟩
theorem kJ.d (h:kJ w base tE ao cap es):sJ w ao cap es:=by
 obtain⟨d,rfl,g,k⟩:=h;have e:=g.a;refine⟨e.1,e.2.1,fun j l=>?_⟩;have c:j<d.length:=by simpa using l
 have m:0<(cB d).length:=by rw[tV];omega
 obtain⟨b,o,rfl,p⟩:=e.e m;refine⟨b,o,d[j].2,rfl,?_⟩;rw[dH];have a:=k _ (dG c);refine⟨fun i u f=>?_,a.c.b,a.b.b,a.f.b⟩;have q:i<12:=(fB.1 f).1;rw[<-rP _ j c i q] at f;have:=p _ _ f;rw[fC];exact this
theorem kJ.e {a:List (az×cJ)}{e:az}{s:cJ}(j:∀p∈a,eI w (fun k=>base<=k∧au ao≠M k) p.1 p.2)(l:eI w (fun k=>base<=k∧au ao≠M k) e s)
 (m:aG w' base tE 12 gQ cap' n (cB a++e.d s)) (o:n=a.length+1) (q:w.grownBy w' (au ao)) (c:au gQ=au ao∨au gQ=M w.heap.size) :
 kJ w' base tE gQ cap' (a.map (·.1)++[e]):=by
 subst o;have r:=al.q q (fun k e=>e);have d:∀k,k<w.heap.size->au ao≠M k->au gQ≠M k:=fun k i h e=>by
  rcases c with g | g
  . rw[g] at e;exact h e
  . rw[g] at e;injection e with e;omega
 refine⟨a++[(e,s)],by simp,?_,fun p b=>?_⟩
 . rw[tW];have t:cB [(e,s)]=e.d s:=by simp[cB]
   rw[t];simpa using m
 . have f:eI w (fun k=>base<=k∧au ao≠M k) p.1 p.2:=by
    rcases dm.1 b with b | b
    . exact j p b
    . rw[cD.1 b];exact l
   exact(f.a (S':=fun k=>(base<=k∧au ao≠M k)∧k<w.heap.size) (fun k i e=>⟨e,i⟩)).d r (fun k e=>e.1.2) |>.a (fun k _ e=>⟨e.1.1,d k e.2 e.1.2⟩)
end
theorem kJ.j {W:X}{b g:Nat}{ao:ai}{cap:Nat}{es:List az}(h:kJ W b g ao cap es)(d:Obj):∃i:List (az×cJ),aG (W.alloc d) b g 12 ao cap es.length (cB i) ∧
 ∀gQ c w' e s,eI W (fun k=>b<=k∧au ao≠M k) e s->aG w' b g 12 gQ c (es.length+1) (cB i++e.d s)->(W.alloc d).grownBy w' (au ao)->(au gQ=au ao∨au gQ=M (W.alloc d).heap.size)->kJ w' b g gQ c (es++[e])∧al (fun k=>b<=k) (W.alloc d) w':=by
 obtain⟨i,f,l,r⟩:=h;have m:Below W.heap.size W (W.alloc d):=(aq _ _).alloc (ak _) _;have n:=al.d (S:=fun _=>False) m;refine⟨i,l.r m,fun gQ c w' e s t o q j=>⟨?_,al.q q (fun k e=>?_)⟩⟩
 . rw[<-f];exact kJ.e (fun p u=>(r p u).d n (fun _ _ e=>e)) (t.d n (fun _ _ e=>e)) (by rw[<-f] at o;simpa using o) rfl q j
 . cases ao with
   | none=>cases e
   | some a=>injection e with e;subst e;exact(l.d a rfl).1
theorem kJ.a {W:X}{b c:Nat}{ao:ai}{cap:Nat}{es:List az}(h:kJ W b c ao cap es)(k:Nat)(e:au ao=M k):b<=k∧k<W.heap.size:=by
 obtain⟨g,d,f,i⟩:=h;cases ao with
 | none=>cases e
 | some a=>injection e with e;subst e;exact f.d a rfl
