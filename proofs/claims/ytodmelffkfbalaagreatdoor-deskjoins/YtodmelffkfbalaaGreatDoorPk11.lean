import Derived.Test.YtodmelffkfbalaaGreatDoorPk8
import Derived.Test.YtodmelffkfbalaaGreatDoorPk3
import Derived.Deep.AppendSrc
open Go.Value renaming int->I,string->V,slice->Z
open Go.Obj renaming cells->K
open Option renaming none->U,some->M
open Or renaming inl->A,inr->R
open Go renaming World->X
namespace Go.Proofs.YtodmelffkfbalaaGreatDoor
open Go.RowKit
structure dV (w:X)(base g cap:Nat)(l:ab):Prop where
 c:base<=g
 b:g<w.heap.size
 e:l.length<=cap
 f:cap<=maxLen
 d:∀j u,(bA l)[j]? = M u->w.cell? ⟨g,j,U⟩=M u
 a:∀j,j<cap->(w.cell? ⟨g,j,U⟩).isSome=true∧w.frozen? ⟨g,j,U⟩=false
section
variable {w w':X} {base g cap:Nat} {l:ab}
theorem dV.y (h:dV w base g cap l)(b:w'.heap[g]? = w.heap[g]?):dV w' base g cap l:=by
 have c:g<w'.heap.size:=by
  have:(w'.heap[g]?).isSome=true:=by rw[b,vk h.b];rfl
  rcases eN g w'.heap.size with e | e
  . exact e
  . rw[Array.getElem?_eq_none e] at this;cases this
 exact⟨h.c,c,h.e,h.f,fun j u d=>by rw[vw (a:=⟨g,j,U⟩) b];exact h.d j u d,fun j d=>by rw[vw (a:=⟨g,j,U⟩) b,vx (a:=⟨g,j,U⟩) b];exact h.a j d⟩
theorem dV.H {S:Nat->Prop}(h:dV w base g cap l)(a:am S w w')(b:¬S g):dV w' base g cap l:=h.y (a.c g h.b b)
theorem dV.j (h:dV w base g cap l)(a:Below w.heap.size w w'):dV w' base g cap l:=h.y (a.block g h.b)
theorem dV.B (h:dV w base g cap l)(o:Obj):dV (w.alloc o) base g cap l:=h.j ((ar _ _).alloc (ak _) o)
theorem dV.r (h:dV w base g cap l):aB w (M ⟨g,0,U⟩) cap l :=
 ⟨h.e,(fun e=>by cases e),fun j a=>⟨_,rfl,by rw[ge,ee];exact h.d j _ (jM l j a)⟩⟩
end
theorem jr (g:Nat):∀(a:List Value) (o:Nat) (w:X),am (fun k=>k=g) w (w.setCells g o a)
 | [],_,w=>am.B _ w
 | v::a,o,w=>(am.r (fun k=>k=g) w ⟨g,o,U⟩ v rfl).a (jr g a (o+1) _) (fun _ h _=>h)
theorem xf {P:Program}(W:X)(s:ae)(a b e:TypeId)(m:s.size<=maxLen)(n:P.underlying a=M .string)(hd:P.underlying b=M (.slice e))(o:P.underlying e=M (.int .u8)):
 ∃cap k,(convert a b (V s)).run P W=.ok (Z (M ⟨W.heap.size,0,U⟩) s.size cap) k∧Below W.heap.size W k∧dV k W.heap.size W.heap.size cap s.data.toList:=by
 refine⟨_,_,run_bytes_of_string (P:=P) W a b e s n hd o,((bj _ W).alloc (ak _) _),?_⟩;have f:=grownCap_ge W s.size 0 e;have g:=grownCap_le_maxLen W s.size 0 e m;generalize grownCap W s.size 0 e=cap at f g ⊢;have i:(bytesRow s cap).size=cap:=by
  unfold bytesRow;have:s.data.size=s.size:=rfl;simp only[Array.size_append,Array.size_map,Array.size_replicate,this];omega
 refine⟨ak _,by simp,by rw[cH];exact f,g,fun j u c=>?_,fun j c=>⟨?_,?_⟩⟩
 . have d:j<s.data.toList.length:=by
    have:=(fe.1 c).1;rwa[dr] at this
   rw[jM _ j d] at c;injection c with c;subst c;have l:j<s.size:=by rw[cH] at d;exact d
   have:=World.cell?_alloc_mark W.drew (bytesRow s cap) e ((bytesRow s cap).size,(bytesRow s cap).size+1) j;refine this.trans ?_;rw[bytesRow_at s cap j l];simp
 . have:=World.cell?_alloc_mark W.drew (bytesRow s cap) e ((bytesRow s cap).size,(bytesRow s cap).size+1) j;rw[show(W.drew.alloc (K (bytesRow s cap) e ((bytesRow s cap).size,(bytesRow s cap).size+1))).cell? ⟨W.heap.size,j,U⟩=(bytesRow s cap)[j]? from this,vk (by rw[i];exact c)];rfl
 . refine(World.frozen?_alloc_mark W.drew (bytesRow s cap) e (bytesRow s cap).size ((bytesRow s cap).size+1) j).trans ?_;rw[ba (by rw[i];omega)];rfl
theorem I8 {P:Program}(w:X)(t z B e:TypeId)(i:TypeInfo)(N:P.underlying t=M (.slice e))(S:P.info? e=M i)(hz:i.zero=M (I .u8 0))(c:i.size=1)(C:i.bytes=1)
 {p g cap n:Nat} {l l2:ab} (h:dV w p g cap l) (hn:l.length=n) (x:Value) (m:Nat) (D:Src P 1 z x m (bA l2) w) (T:n+m<=140737488355328) :
 ∃W b w',(Builtin.append_ #[t,z] B #[Z (M ⟨g,0,U⟩) n cap,x]).run P w=.ok (Z (M ⟨W,0,U⟩) (n+m) b) w'∧dV w' p W b (l++l2)∧am (fun k=>k=g) w w':=by
 subst hn;have hl2:l2.length=m:=by have:=D.newsLen;rw[dr] at this;omega
 have hhl:=h.e;rcases eN cap (l.length+m) with d | d
 . have q:(Builtin.firstCells i.size l.length (Z (M ⟨g,0,U⟩) l.length cap)).run P w.drew=.ok (bA l).toArray w.drew :=
    run_firstCells_some w.drew i.size l.length ⟨g,0,U⟩ l.length cap (bA l) (by rw[dr,c];omega) (fun j u a=>by rw[ge,ee];exact h.d j u a)
   have r:=run_append_grow_src (P:=P) w t z B e i (I .u8 0) N S hz (M ⟨g,0,U⟩) l.length cap (bA l) q x m (bA l2) (by rw[c];exact D) d (by omega) (by rw[C];exact growslice_fits (by omega) (by omega));have G:=grownCap_ge w (l.length+m) cap e;have s:=grownCap_le_maxLen w (l.length+m) cap e (by unfold maxLen;omega);generalize grownCap w (l.length+m) cap e=b at r G s;have H:((bA l++bA l2).toArray++Builtin.zeroCells (Value.int .u8 0).cells (b-(l.length+m))).size=b:=by
    have c:(Value.int IntKind.u8 0).cells.size=1:=rfl;simp only[Array.size_append,cz,aD,dr,size_zeroCells,c];omega
   refine⟨_,_,_,r,⟨cq h.c (Nat.le_of_lt h.b),by simp,by rw[aD];omega,s,fun j u a=>?_,fun j a=>⟨?_,?_⟩⟩,⟨rfl,rfl,rfl,by simp,fun k L _=>Below.heap_alloc w.drew _ k L⟩⟩
   . rw[show(w.drew.alloc (K ((bA l++bA l2).toArray++Builtin.zeroCells (Value.int .u8 0).cells (b-(l.length+m))) e)).cell? ⟨w.heap.size,j,U⟩=_ from sL w.drew _ _ j];rw[oQ] at a;rw[Array.getElem?_append_left (by rw[cz];exact(fe.1 a).1),mD];exact a
   . rw[show(w.drew.alloc (K ((bA l++bA l2).toArray++Builtin.zeroCells (Value.int .u8 0).cells (b-(l.length+m))) e)).cell? ⟨w.heap.size,j,U⟩=_ from sL w.drew _ _ j,vk (by rw[H];exact a)];rfl
   . exact(World.frozen?_alloc_mark w.drew _ e 0 0 j).trans (by simp)
 . have r:=run_append_room_src (P:=P) w t z B e i N S g 0 l.length cap x m (bA l2) (by rw[c];exact D) d (fun j a=>by rw[c,Nat.mul_one,ee];rw[dr] at a;exact(h.a _ (by omega)).1) (fun j a=>by rw[c,Nat.mul_one,ee];rw[dr] at a;exact(h.a _ (by omega)).2);rw[c,Nat.mul_one,ee] at r;have hT:=jr g (bA l2) l.length w;have v:=World.cell?_setCells_in g (bA l2) l.length w (fun j a=>by rw[dr] at a;exact(h.a _ (by omega)).1);have o:=World.cell?_setCells_out g (bA l2) l.length w;refine⟨_,_,_,r,⟨h.c,mC h.b hT.b,by rw[aD];omega,h.f,fun j u a=>?_,fun j a=>⟨?_,by rw[World.frozen?_setCells];exact(h.a j a).2⟩⟩,hT⟩
   . rw[oQ] at a;rcases eN j l.length with f | f
     . rw[qS (by rw[dr];exact f)] at a;rw[o ⟨g,j,U⟩ (fun _ _=>A f)];exact h.d j u a
     . rw[qW (by rw[dr];exact f),dr] at a;obtain⟨k,rfl⟩:∃k,j=l.length+k:=⟨j-l.length,by omega⟩;rw[Nat.add_sub_cancel_left] at a;obtain⟨L,e⟩:=fe.1 a;rw[v k L,e]
   . rcases eN j l.length with f | f
     . rw[o ⟨g,j,U⟩ (fun _ _=>A f)];exact(h.a j a).1
     . rcases eN j (l.length+(bA l2).length) with y | y
       . obtain⟨k,rfl⟩:∃k,j=l.length+k:=⟨j-l.length,by omega⟩;rw[v k (by omega)];rfl
       . rw[o ⟨g,j,U⟩ (fun _ _=>R y)];exact(h.a j a).1
theorem By {P:Program}{w:X}{d:Array Oper}{rest:List Oper}{o:Oper}{a:Act}{aam:Exit->Act->X->Prop}(q:o.guard=U)(s x:Operand)(t r:TypeId)
 (B:o.op=.call { callee:=.builtin .append,args:=#[s,x],argTypes:=#[t,r] })
 (e:TypeId) (i:TypeInfo) (C:P.underlying t=M (.slice e)) (D:P.info? e=M i) (G:i.zero=M (I .u8 0)) (u:i.size=1) (v:i.bytes=1)
 {c g cap n:Nat} {l l2:ab} (H:a.eval s=Z (M ⟨g,0,U⟩) n cap) (h:dV w c g cap l) (L:l.length=n) (y:Value) (m:Nat) (N:a.eval x=y) (S:Src P 1 r y m (bA l2) w) (f:n+m<=140737488355328)
 (T:∀p b w',dV w' c p b (l++l2)->am (fun k=>k=g) w w'->wpList P d aam rest (a.put o.dst (Z (M ⟨p,0,U⟩) (n+m) b)) w'):wpList P d aam (o::rest) a w:=by
 refine wpList_plain q fun W z=>?_;obtain⟨p,b,w',j,h1,h2⟩:=I8 (P:=P) w t r o.type e i C D G u v h L y m S f;unfold Oper.wp;simp[execOp,B,resolve,invoke,builtin,H,N,j,Result.andThen];exact z _ _ (T p b w' h1 h2)
theorem vU {P:Program}{a:TypeId}(b:P.underlying a=M .string)(s:ae)(w:X):Src P 1 a (V s) s.size (bA s.data.toList) w:=Src.ofString w b s
def xB:List Value->Nat->List Value->List Value
 | xs,_,[]=>xs
 | xs,o,v::r=>xB (xs.set o v) (o+1) r
theorem Es:∀(c a b:List Value),b.length=c.length->xB (a++b) a.length c=a++c
 | [], a, b, h => by
   have d:b=[]:=ix (by simpa using h);rw[d];rfl
 | v::r,a,[],h=>by simp at h
 | v :: r, a, u :: b, h => by
   show xB ((a++u::b).set a.length v) (a.length+1) r=a++v::r;have e:(a++u::b).set a.length v=(a++[v])++b:=by
    rw[sy _ _ (ak _),Nat.sub_self];simp
   rw[e];have:=Es r (a++[v]) b (by simpa using h);rw[aD] at this;rw[show a.length+1=a.length+[v].length from rfl,this];simp
theorem aK.jK {a t k cap n g:Nat}:∀(b:List Value) (o:Nat) (w:X) (xs:List Value),aK w a t k (M ⟨g,0,U⟩) cap n xs->aK (w.setCells g o b) a t k (M ⟨g,0,U⟩) cap n (xB xs o b)
 | [],_,_,_,h=>h
 | v::r,o,_,_,h=>aK.jK r (o+1) _ _ (od h o v).1
section
variable {w w1:X} {S:Nat->Prop} {tE tb:Nat} {cap:Nat}
theorem gg.H {q:List (az×cU)}{e:az}{s:cU}{g:Nat}{l:ab}{bo:ag}{fZ:Nat}
 (own:aK w 0 tE 12 (M ⟨g,0,U⟩) cap (q.length+1) (cT (q++[(e,s)]))) (d:S g)
 (ahead:∀p∈q,fX w (fun k=>(S k∧k≠g)∧eh e s≠M k) p.1 p.2)
 (bytes:bK w (fun k=>S k∧k≠g) tb s.a s.d e.a)
 (t:bK w1 (fun k=>eh e s=M k∨w.heap.size<=k) tb bo fZ l) (i:am (fun k=>eh e s=M k) w w1) :
 gg (w1.setCells g (q.length*12) ((dS l).f ⟨U,0,bo,fZ,U,0⟩)) (ay S w) tE tb (M ⟨g,0,U⟩) cap (q.map (·.1)++[dS l])∧am S w (w1.setCells g (q.length*12) ((dS l).f ⟨U,0,bo,fZ,U,0⟩)):=by
 have b:∀k,eh e s=M k->S k∧k≠g:=fun k h=>by
  unfold eh at h;split at h
  . cases h
  . rcases bytes with ⟨_,_,j⟩ | ⟨v,_⟩
    . cases c:s.a with
      | none=>rw[c] at h;cases h
      | some a=>rw[c] at h;injection h with h;subst h;exact j a c
    . contradiction
 have x:g<w.heap.size:=(own.f _ rfl).2;have m:am (fun k=>k=g) w1 (w1.setCells g (q.length*12) ((dS l).f ⟨U,0,bo,fZ,U,0⟩)):=jr g _ _ w1;have y:am S w (w1.setCells g (q.length*12) ((dS l).f ⟨U,0,bo,fZ,U,0⟩)):=(i.j (fun k e=>(b k e).1)).a (m.j (fun k e=>by rw[e];exact d)) (fun _ e _=>e);have z:aK w1 0 tE 12 (M ⟨g,0,U⟩) cap (q.length+1) (cT (q++[(e,s)])):=own.j i (fun a e h=>by injection e with e;subst e;exact(b _ h).2 rfl);have u:=aK.jK ((dS l).f ⟨U,0,bo,fZ,U,0⟩) (q.length*12) w1 _ z;have B:cT (q++[(e,s)])=cT q++e.f s:=by rw[vB];simp[cT]
 have n:cT (q++[(dS l,(⟨U,0,bo,fZ,U,0⟩:cU))])=cT q++(dS l).f ⟨U,0,bo,fZ,U,0⟩:=by rw[vB];simp[cT]
 have f:=Es ((dS l).f ⟨U,0,bo,fZ,U,0⟩) (cT q) (e.f s) rfl;rw[vA] at f;rw[B,f,<-n] at u;refine⟨?_,y⟩;have o:∀k,eh (dS l) ⟨U,0,bo,fZ,U,0⟩=M k->eh e s=M k∨w.heap.size<=k:=fun k h=>by
  unfold eh dS at h;simp only at h;split at h
  . cases h
  . rcases t with ⟨_,_,j⟩ | ⟨v,_⟩
    . cases c:bo with
      | none=>rw[c] at h;cases h
      | some a=>rw[c] at h;injection h with h;subst h;exact j a c
    . contradiction
 have r:∀k,k<w.heap.size->((S k∧k≠g)∧eh e s≠M k)->((ay S w k∧k≠g)∧eh (dS l) ⟨U,0,bo,fZ,U,0⟩≠M k)∧eh e s≠M k:=fun k D h=>⟨⟨⟨A h.1.1,h.1.2⟩,fun n=>by
  rcases o k n with f | f
  . exact h.2 f
  . omega⟩,h.2⟩
 refine .laid q (dS l) ⟨U,0,bo,fZ,U,0⟩ g cap u (A d) (fun p C=>?_) (js.a _ _) (dL.j _ _) ?_
 . exact(((ahead p C).a r).f i (fun k h=>h.2)).f m (fun k h=>h.1.1.2) |>.a (fun k _ h=>h.1)
 . refine(t.j (S':=fun k=>ay S w k∧k≠g) (fun k _ h=>?_)).a m (fun k h=>h.2);rcases h with h | h
   . exact⟨A (b k h).1,(b k h).2⟩
   . exact⟨R h,by omega⟩
end
theorem MT {P:Program}{d g:TypeId}(e:P.underlying d=M (.slice g)){W:X}{bo:ag}{cap n:Nat}{b:ab}(h:aB W bo cap b)(i:b.length=n):Src P 1 d (Z bo n cap) n (bA b) W:=by
 subst i;cases bo with
 | none =>
   obtain⟨rfl,rfl⟩:=h.jK;exact Src.ofNil _ e 0
 | some a =>
   refine Src.ofSlice _ e a _ cap _ (by rw[dr];omega) (fun j u c=>?_) (th b);have f:j<b.length:=by
    have:=(fe.1 c).1;rwa[dr] at this
   rw[jM b j f] at c;injection c with c;subst c;exact h.j j f
theorem Hq {P:Program}(w:X)(t z C e:TypeId)(i:TypeInfo)(S:P.underlying t=M (.slice e))(T:P.info? e=M i)(hz:i.zero=M (I .u8 0))(c:i.size=1)(D:i.bytes=1)
 {p g cap n:Nat} {l l2:ab} (h:dV w p g cap l) (hn:l.length=n) (x:Value) (m:Nat) (G:Src P 1 z x m (bA l2) w) (W:n+m<=140737488355328) :
 ∃B b w',(Builtin.append_ #[t,z] C #[Z (M ⟨g,0,U⟩) n cap,x]).run P w=.ok (Z (M ⟨B,0,U⟩) (n+m) b) w'∧dV w' p B b (l++l2)∧am (fun k=>k=g) w w'∧(B=g∨B=w.heap.size):=by
 subst hn;have hl2:l2.length=m:=by have:=G.newsLen;rw[dr] at this;omega
 have hhl:=h.e;rcases eN cap (l.length+m) with d | d
 . have q:(Builtin.firstCells i.size l.length (Z (M ⟨g,0,U⟩) l.length cap)).run P w.drew=.ok (bA l).toArray w.drew :=
    run_firstCells_some w.drew i.size l.length ⟨g,0,U⟩ l.length cap (bA l) (by rw[dr,c];omega) (fun j u a=>by rw[ge,ee];exact h.d j u a)
   have r:=run_append_grow_src (P:=P) w t z C e i (I .u8 0) S T hz (M ⟨g,0,U⟩) l.length cap (bA l) q x m (bA l2) (by rw[c];exact G) d (by omega) (by rw[D];exact growslice_fits (by omega) (by omega));have H:=grownCap_ge w (l.length+m) cap e;have s:=grownCap_le_maxLen w (l.length+m) cap e (by unfold maxLen;omega);generalize grownCap w (l.length+m) cap e=b at r H s;have L:((bA l++bA l2).toArray++Builtin.zeroCells (Value.int .u8 0).cells (b-(l.length+m))).size=b:=by
    have c:(Value.int IntKind.u8 0).cells.size=1:=rfl;simp only[Array.size_append,cz,aD,dr,size_zeroCells,c];omega
   refine⟨_,_,_,r,⟨cq h.c (Nat.le_of_lt h.b),by simp,by rw[aD];omega,s,fun j u a=>?_,fun j a=>⟨?_,?_⟩⟩,⟨rfl,rfl,rfl,by simp,fun k N _=>Below.heap_alloc w.drew _ k N⟩,R rfl⟩
   . rw[show(w.drew.alloc (K ((bA l++bA l2).toArray++Builtin.zeroCells (Value.int .u8 0).cells (b-(l.length+m))) e)).cell? ⟨w.heap.size,j,U⟩=_ from sL w.drew _ _ j];rw[oQ] at a;rw[Array.getElem?_append_left (by rw[cz];exact(fe.1 a).1),mD];exact a
   . rw[show(w.drew.alloc (K ((bA l++bA l2).toArray++Builtin.zeroCells (Value.int .u8 0).cells (b-(l.length+m))) e)).cell? ⟨w.heap.size,j,U⟩=_ from sL w.drew _ _ j,vk (by rw[L];exact a)];rfl
   . exact(World.frozen?_alloc_mark w.drew _ e 0 0 j).trans (by simp)
 . have r:=run_append_room_src (P:=P) w t z C e i S T g 0 l.length cap x m (bA l2) (by rw[c];exact G) d (fun j a=>by rw[c,Nat.mul_one,ee];rw[dr] at a;exact(h.a _ (by omega)).1) (fun j a=>by rw[c,Nat.mul_one,ee];rw[dr] at a;exact(h.a _ (by omega)).2);rw[c,Nat.mul_one,ee] at r;have hT:=jr g (bA l2) l.length w;have v:=World.cell?_setCells_in g (bA l2) l.length w (fun j a=>by rw[dr] at a;exact(h.a _ (by omega)).1);have o:=World.cell?_setCells_out g (bA l2) l.length w;refine⟨_,_,_,r,⟨h.c,mC h.b hT.b,by rw[aD];omega,h.f,fun j u a=>?_,fun j a=>⟨?_,by rw[World.frozen?_setCells];exact(h.a j a).2⟩⟩,hT,A rfl⟩
   . rw[oQ] at a;rcases eN j l.length with f | f
     . rw[qS (by rw[dr];exact f)] at a;rw[o ⟨g,j,U⟩ (fun _ _=>A f)];exact h.d j u a
     . rw[qW (by rw[dr];exact f),dr] at a;obtain⟨k,rfl⟩:∃k,j=l.length+k:=⟨j-l.length,by omega⟩;rw[Nat.add_sub_cancel_left] at a;obtain⟨N,e⟩:=fe.1 a;rw[v k N,e]
   . rcases eN j l.length with f | f
     . rw[o ⟨g,j,U⟩ (fun _ _=>A f)];exact(h.a j a).1
     . rcases eN j (l.length+(bA l2).length) with y | y
       . obtain⟨k,rfl⟩:∃k,j=l.length+k:=⟨j-l.length,by omega⟩;rw[v k (by omega)];rfl
       . rw[o ⟨g,j,U⟩ (fun _ _=>R y)];exact(h.a j a).1
theorem Bx {P:Program}{w:X}{f:Array Oper}{rest:List Oper}{o:Oper}{a:Act}{aam:Exit->Act->X->Prop}(q:o.guard=U)(s x:Operand)(t r:TypeId)
 (B:o.op=.call { callee:=.builtin .append,args:=#[s,x],argTypes:=#[t,r] })
 (e:TypeId) (i:TypeInfo) (C:P.underlying t=M (.slice e)) (D:P.info? e=M i) (G:i.zero=M (I .u8 0)) (u:i.size=1) (v:i.bytes=1)
 {c g cap n:Nat} {l l2:ab} (H:a.eval s=Z (M ⟨g,0,U⟩) n cap) (h:dV w c g cap l) (L:l.length=n) (y:Value) (p:Nat) (N:a.eval x=y) (S:Src P 1 r y p (bA l2) w) (j:n+p<=140737488355328)
 (T:∀d b w',dV w' c d b (l++l2)->am (fun k=>k=g) w w'->(d=g∨d=w.heap.size)->wpList P f aam rest (a.put o.dst (Z (M ⟨d,0,U⟩) (n+p) b)) w'):wpList P f aam (o::rest) a w:=by
 refine wpList_plain q fun W z=>?_;obtain⟨d,b,w',m,h1,h2,h3⟩:=Hq (P:=P) w t r o.type e i C D G u v h L y p S j;unfold Oper.wp;simp[execOp,B,resolve,invoke,builtin,H,N,m,Result.andThen];exact z _ _ (T d b w' h1 h2 h3)
def nE (ao:ag)(cap:Nat)(l:ab):dC:=fun w S=>(ao=U∧cap=0∧l=[])∨∃g,ao=M ⟨g,0,U⟩∧dV w 0 g cap l∧S g
theorem nE.a (ao:ag)(cap:Nat)(l:ab):bM (nE ao cap l) where
 c h ht hs:=by
  rcases h with h | ⟨g,e,a,b⟩
  . exact A h
  . exact R ⟨g,e,a.H ht (hs g b),b⟩
 b h hs:=by
  rcases h with h | ⟨g,e,a,b⟩
  . exact A h
  . exact R ⟨g,e,a,hs g a.b b⟩
theorem nE.f (w:X)(S:Nat->Prop):nE U 0 [] w S:=A ⟨rfl,rfl,rfl⟩
theorem nE.j {ao:ag}{cap:Nat}{l:ab}{w:X}{S:Nat->Prop}(h:nE ao cap l w S):aB w ao cap l:=by
 rcases h with ⟨rfl,rfl,rfl⟩ | ⟨g,rfl,a,_⟩
 . exact aB.f w
 . exact a.r
theorem KQ {P:Program}(w:X)(t q v e:TypeId)(i:TypeInfo)(C:P.underlying t=M (.slice e))(D:P.info? e=M i)(G:i.zero=M (I .u8 0))(d:i.size=1)(f:i.bytes=1)
 {S:Nat->Prop} {ao:ag} {cap n:Nat} {l l2:ab} (h:nE ao cap l w S) (H:l.length=n) (x:Value) (c:Nat) (hp:0<c) (y:Src P 1 q x c (bA l2) w) (b:n+c<=140737488355328) :
 ∃gL a w',(Builtin.append_ #[t,q] v #[Z ao n cap,x]).run P w=.ok (Z gL (n+c) a) w'∧nE gL a (l++l2) w' (ay S w)∧am S w w':=by
 rcases h with ⟨rfl,rfl,rfl⟩ | ⟨g,rfl,N,L⟩
 . subst H;have T:l2.length=c:=by have:=y.newsLen;rw[dr] at this;omega
   have m:(Builtin.firstCells i.size 0 (Z U 0 0)).run P w.drew=.ok ([]:List Value).toArray w.drew:=by simp[Builtin.firstCells]
   have r:=run_append_grow_src (P:=P) w t q v e i (I .u8 0) C D G U 0 0 [] m x c (bA l2) (by rw[d];exact y) (by omega) (by simp at b;omega) (by rw[f];simp at b;exact growslice_fits (by omega) (by omega));have z:=grownCap_ge w (0+c) 0 e;have o:=grownCap_le_maxLen w (0+c) 0 e (by unfold maxLen;simp at b;omega);generalize grownCap w (0+c) 0 e=a at r z o;have B:((([]:List Value)++bA l2).toArray++Builtin.zeroCells (Value.int .u8 0).cells (a-(0+c))).size=a:=by
    have d:(Value.int IntKind.u8 0).cells.size=1:=rfl;simp only[Array.size_append,cz,aD,iv,dr,size_zeroCells,d];omega
   refine⟨_,_,_,r,R ⟨w.heap.size,rfl,⟨ax _,by simp,by rw[kX];omega,o,fun j u p=>?_,fun j p=>⟨?_,?_⟩⟩,R (ak _)⟩,⟨rfl,rfl,rfl,by simp,fun k W _=>Below.heap_alloc w.drew _ k W⟩⟩
   . rw[show(w.drew.alloc (K ((([]:List Value)++bA l2).toArray++Builtin.zeroCells (Value.int .u8 0).cells (a-(0+c))) e)).cell? ⟨w.heap.size,j,U⟩=_ from sL w.drew _ _ j];rw[kX] at p;rw[Array.getElem?_append_left (by rw[cz];exact(fe.1 p).1),mD];exact p
   . rw[show(w.drew.alloc (K ((([]:List Value)++bA l2).toArray++Builtin.zeroCells (Value.int .u8 0).cells (a-(0+c))) e)).cell? ⟨w.heap.size,j,U⟩=_ from sL w.drew _ _ j,vk (by rw[B];exact p)];rfl
   . exact(World.frozen?_alloc_mark w.drew _ e 0 0 j).trans (by simp)
 . obtain⟨g',a,w',r,h1,h2,s⟩:=Hq (P:=P) w t q v e i C D G d f N H x c y b;refine⟨_,a,w',r,R ⟨g',rfl,h1,?_⟩,h2.j (fun k e=>by rw[e];exact L)⟩;rcases s with s | s
   . rw[s];exact A L
   . exact R (by omega)
theorem Jm {P:Program}{w:X}{d:Array Oper}{o:Oper}{a:Act}{f:Act->X->Prop}{aam:Exit->Act->X->Prop}{E:Prop}(j:o.guard=U)(s x:Operand)(t u:TypeId)(q:o.op=.call { callee:=.builtin .append,args:=#[s,x],argTypes:=#[t,u] })
 (e:TypeId) (i:TypeInfo) (r:P.underlying t=M (.slice e)) (v:P.underlying u=M .string) (y:P.info? e=M i) (z:i.zero=M (I .u8 0)) (m:i.size=1) (p:i.bytes=1)
 {S:Nat->Prop} {ao:ag} {cap n:Nat} {l:ab} (B:a.eval s=Z ao n cap) (C:l.length=n) (D:nE ao cap l w S) (c:ae) (k:Nat) (G:c.size=k) (H:0<k) (L:a.eval x=V c) (g:n+k<=140737488355328)
 (h:∀gL b w',nE gL b (l++c.data.toList) w' (ay S w)->am S w w'->f (a.put o.dst (Z gL (n+k) b)) w') :
 if Region.wanted o (yielded d a.tmps)=true then Oper.wp P o a w f aam else E:=by
 have N:Region.wanted o (yielded d a.tmps)=true:=by simp[Region.wanted,j]
 rw[if_pos N];subst G;obtain⟨gL,b,w',T,W,h2⟩:=KQ (P:=P) w t u o.type e i r y z m p D C (V c) c.size H (vU v c w) g;unfold Oper.wp execOp;simp only[q,resolve,invoke,builtin,Sem.run_bind,Sem.run_pure,Result.andThen_ok,List.map_toArray,List.map_cons,List.map_nil,B,L,T];exact h gL b w' W h2
