/- Small texts, one behind the other: MemF, MemP, MemFS, MemX, MemZ, MemW, MemY. -/
import Derived.Test.YthhklgjjnaeaoaaGreatDoorPk11
import Derived.Test.YthhklgjjnaeaoaaGreatDoorPk4
import Derived.Deep.AppendSrc
open Go.Value renaming int->I,string->V,slice->Z
open Go.Obj renaming cells->K
open Option renaming none->U,some->M
open Or renaming inl->A,inr->R
open Go renaming World->X
namespace Go.Proofs.YthhklgjjnaeaoaaGreatDoor
open Go.RowKit
structure Buf (w:X)(base g cap:Nat)(l:av):Prop where
 rD:base<=g
 lt:g<w.heap.size
 le:l.length<=cap
 max:cap<=maxLen
 holds:∀j u,(ig l)[j]? = M u->w.cell? ⟨g,j,U⟩=M u
 there:∀j,j<cap->(w.cell? ⟨g,j,U⟩).isSome=true∧w.frozen? ⟨g,j,U⟩=false
section
variable {w w':X} {base g cap:Nat} {l:av}
theorem Buf.of_block (h:Buf w base g cap l)(b:w'.heap[g]? = w.heap[g]?):Buf w' base g cap l:=by
 have c:g<w'.heap.size:=by
  have:(w'.heap[g]?).isSome=true:=by rw[b,dA h.lt];rfl
  rcases aT g w'.heap.size with e | e
  . exact e
  . rw[Array.getElem?_eq_none e] at this;cases this
 exact⟨h.rD,c,h.le,h.max,fun j u d=>by rw[fO (a:=⟨g,j,U⟩) b];exact h.holds j u d,fun j d=>by rw[fO (a:=⟨g,j,U⟩) b,fP (a:=⟨g,j,U⟩) b];exact h.there j d⟩
theorem Buf.turns {S:Nat->Prop}(h:Buf w base g cap l)(a:Turns S w w')(b:¬S g):Buf w' base g cap l:=h.of_block (a.block g h.lt b)
theorem Buf.keep (h:Buf w base g cap l)(a:Below w.heap.size w w'):Buf w' base g cap l:=h.of_block (a.block g h.lt)
theorem Buf.alloc (h:Buf w base g cap l)(o:Obj):Buf (w.alloc o) base g cap l:=h.keep ((eY _ _).alloc (aM _) o)
theorem Buf.tQ (h:Buf w base g cap l):gN w (M ⟨g,0,U⟩) cap l :=
 ⟨h.le,(fun e=>by cases e),fun j a=>⟨_,rfl,by rw[fQ,aZ];exact h.holds j _ (kF l j a)⟩⟩
end
theorem gY (g:Nat):∀(a:List Value) (o:Nat) (w:X),Turns (fun k=>k=g) w (w.setCells g o a)
 | [],_,w=>Turns.refl _ w
 | v::a,o,w=>(Turns.setCell (fun k=>k=g) w ⟨g,o,U⟩ v rfl).trans (gY g a (o+1) _) (fun _ h _=>h)
theorem Iw {P:Program}(W:X)(s:ay)(a b e:TypeId)(m:s.size<=maxLen)(n:P.underlying a=M .string)(hd:P.underlying b=M (.slice e))(o:P.underlying e=M (.int .u8)):
 ∃cap k,(convert a b (V s)).run P W=.ok (Z (M ⟨W.heap.size,0,U⟩) s.size cap) k∧Below W.heap.size W k∧Buf k W.heap.size W.heap.size cap s.data.toList:=by
 refine⟨_,_,run_bytes_of_string (P:=P) W a b e s n hd o,((gy _ W).alloc (aM _) _),?_⟩;have f:=grownCap_ge W s.size 0 e;have g:=grownCap_le_maxLen W s.size 0 e m;generalize grownCap W s.size 0 e=cap at f g ⊢;have i:(bytesRow s cap).size=cap:=by
  unfold bytesRow;have:s.data.size=s.size:=rfl;simp only[Array.size_append,Array.size_map,Array.size_replicate,this];omega
 refine⟨aM _,by simp,by rw[Ch.iK];exact f,g,fun j u c=>?_,fun j c=>⟨?_,?_⟩⟩
 . have d:j<s.data.toList.length:=by
    have:=(aQ.1 c).1;rwa[gF] at this
   rw[kF _ j d] at c;injection c with c;subst c;have l:j<s.size:=by rw[Ch.iK] at d;exact d
   have:=World.cell?_alloc_mark W.drew (bytesRow s cap) e ((bytesRow s cap).size,(bytesRow s cap).size+1) j;refine this.trans ?_;rw[bytesRow_at s cap j l];simp
 . have:=World.cell?_alloc_mark W.drew (bytesRow s cap) e ((bytesRow s cap).size,(bytesRow s cap).size+1) j;rw[show(W.drew.alloc (K (bytesRow s cap) e ((bytesRow s cap).size,(bytesRow s cap).size+1))).cell? ⟨W.heap.size,j,U⟩=(bytesRow s cap)[j]? from this,dA (by rw[i];exact c)];rfl
 . refine(World.frozen?_alloc_mark W.drew (bytesRow s cap) e (bytesRow s cap).size ((bytesRow s cap).size+1) j).trans ?_;rw[aJ (by rw[i];omega)];rfl
theorem DI {P:Program}(w:X)(t z B e:TypeId)(i:TypeInfo)(N:P.underlying t=M (.slice e))(S:P.info? e=M i)(hz:i.zero=M (I .u8 0))(c:i.size=1)(C:i.bytes=1)
 {p g cap n:Nat} {l l2:av} (h:Buf w p g cap l) (hn:l.length=n) (x:Value) (m:Nat) (D:Src P 1 z x m (ig l2) w) (T:n+m<=140737488355328) :
 ∃W b w',(Builtin.append_ #[t,z] B #[Z (M ⟨g,0,U⟩) n cap,x]).run P w=.ok (Z (M ⟨W,0,U⟩) (n+m) b) w'∧Buf w' p W b (l++l2)∧Turns (fun k=>k=g) w w':=by
 subst hn;have hl2:l2.length=m:=by have:=D.newsLen;rw[gF] at this;omega
 have hhl:=h.le;rcases aT cap (l.length+m) with d | d
 . have q:(Builtin.firstCells i.size l.length (Z (M ⟨g,0,U⟩) l.length cap)).run P w.drew=.ok (ig l).toArray w.drew :=
    run_firstCells_some w.drew i.size l.length ⟨g,0,U⟩ l.length cap (ig l) (by rw[gF,c];omega) (fun j u a=>by rw[fQ,aZ];exact h.holds j u a)
   have r:=run_append_grow_src (P:=P) w t z B e i (I .u8 0) N S hz (M ⟨g,0,U⟩) l.length cap (ig l) q x m (ig l2) (by rw[c];exact D) d (by omega) (by rw[C];exact growslice_fits (by omega) (by omega));have G:=grownCap_ge w (l.length+m) cap e;have s:=grownCap_le_maxLen w (l.length+m) cap e (by unfold maxLen;omega);generalize grownCap w (l.length+m) cap e=b at r G s;have H:((ig l++ig l2).toArray++Builtin.zeroCells (Value.int .u8 0).cells (b-(l.length+m))).size=b:=by
    have c:(Value.int IntKind.u8 0).cells.size=1:=rfl;simp only[Array.size_append,bK,aV,gF,size_zeroCells,c];omega
   refine⟨_,_,_,r,⟨dB h.rD (Nat.le_of_lt h.lt),by simp,by rw[aV];omega,s,fun j u a=>?_,fun j a=>⟨?_,?_⟩⟩,⟨rfl,rfl,rfl,by simp,fun k L _=>Below.heap_alloc w.drew _ k L⟩⟩
   . rw[show(w.drew.alloc (K ((ig l++ig l2).toArray++Builtin.zeroCells (Value.int .u8 0).cells (b-(l.length+m))) e)).cell? ⟨w.heap.size,j,U⟩=_ from fT w.drew _ _ j];rw[mE] at a;rw[Array.getElem?_append_left (by rw[bK];exact(aQ.1 a).1),dD];exact a
   . rw[show(w.drew.alloc (K ((ig l++ig l2).toArray++Builtin.zeroCells (Value.int .u8 0).cells (b-(l.length+m))) e)).cell? ⟨w.heap.size,j,U⟩=_ from fT w.drew _ _ j,dA (by rw[H];exact a)];rfl
   . exact(World.frozen?_alloc_mark w.drew _ e 0 0 j).trans (by simp)
 . have r:=run_append_room_src (P:=P) w t z B e i N S g 0 l.length cap x m (ig l2) (by rw[c];exact D) d (fun j a=>by rw[c,Nat.mul_one,aZ];rw[gF] at a;exact(h.there _ (by omega)).1) (fun j a=>by rw[c,Nat.mul_one,aZ];rw[gF] at a;exact(h.there _ (by omega)).2);rw[c,Nat.mul_one,aZ] at r;have hT:=gY g (ig l2) l.length w;have v:=World.cell?_setCells_in g (ig l2) l.length w (fun j a=>by rw[gF] at a;exact(h.there _ (by omega)).1);have o:=World.cell?_setCells_out g (ig l2) l.length w;refine⟨_,_,_,r,⟨h.rD,bZ h.lt hT.size,by rw[aV];omega,h.max,fun j u a=>?_,fun j a=>⟨?_,by rw[World.frozen?_setCells];exact(h.there j a).2⟩⟩,hT⟩
   . rw[mE] at a;rcases aT j l.length with f | f
     . rw[aX (by rw[gF];exact f)] at a;rw[o ⟨g,j,U⟩ (fun _ _=>A f)];exact h.holds j u a
     . rw[bg (by rw[gF];exact f),gF] at a;obtain⟨k,rfl⟩:∃k,j=l.length+k:=⟨j-l.length,by omega⟩;rw[Nat.add_sub_cancel_left] at a;obtain⟨L,e⟩:=aQ.1 a;rw[v k L,e]
   . rcases aT j l.length with f | f
     . rw[o ⟨g,j,U⟩ (fun _ _=>A f)];exact(h.there j a).1
     . rcases aT j (l.length+(ig l2).length) with y | y
       . obtain⟨k,rfl⟩:∃k,j=l.length+k:=⟨j-l.length,by omega⟩;rw[v k (by omega)];rfl
       . rw[o ⟨g,j,U⟩ (fun _ _=>R y)];exact(h.there j a).1
theorem nT {P:Program}{w:X}{d:Array Oper}{rest:List Oper}{o:Oper}{a:Act}{aai:Exit->Act->X->Prop}(q:o.guard=U)(s x:Operand)(t r:TypeId)
 (B:o.op=.call { callee:=.builtin .append,args:=#[s,x],argTypes:=#[t,r] })
 (e:TypeId) (i:TypeInfo) (C:P.underlying t=M (.slice e)) (D:P.info? e=M i) (G:i.zero=M (I .u8 0)) (u:i.size=1) (v:i.bytes=1)
 {c g cap n:Nat} {l l2:av} (H:a.eval s=Z (M ⟨g,0,U⟩) n cap) (h:Buf w c g cap l) (L:l.length=n) (y:Value) (m:Nat) (N:a.eval x=y) (S:Src P 1 r y m (ig l2) w) (f:n+m<=140737488355328)
 (T:∀p b w',Buf w' c p b (l++l2)->Turns (fun k=>k=g) w w'->wpList P d aai rest (a.put o.dst (Z (M ⟨p,0,U⟩) (n+m) b)) w'):wpList P d aai (o::rest) a w:=by
 refine wpList_plain q fun W z=>?_;obtain⟨p,b,w',j,h1,h2⟩:=DI (P:=P) w t r o.type e i C D G u v h L y m S f;unfold Oper.wp;simp[execOp,B,resolve,invoke,builtin,H,N,j,Result.andThen];exact z _ _ (T p b w' h1 h2)
theorem vL {P:Program}{a:TypeId}(b:P.underlying a=M .string)(s:ay)(w:X):Src P 1 a (V s) s.size (ig s.data.toList) w:=Src.ofString w b s
def Qp:List Value->Nat->List Value->List Value
 | xs,_,[]=>xs
 | xs,o,v::r=>Qp (xs.set o v) (o+1) r
theorem Gq:∀(c a b:List Value),b.length=c.length->Qp (a++b) a.length c=a++c
 | [], a, b, h => by
   have d:b=[]:=dh (by simpa using h);rw[d];rfl
 | v::r,a,[],h=>by simp at h
 | v :: r, a, u :: b, h => by
   show Qp ((a++u::b).set a.length v) (a.length+1) r=a++v::r;have e:(a++u::b).set a.length v=(a++[v])++b:=by
    rw[bG _ _ (aM _),Nat.sub_self];simp
   rw[e];have:=Gq r (a++[v]) b (by simpa using h);rw[aV] at this;rw[show a.length+1=a.length+[v].length from rfl,this];simp
theorem gH.sets {a t k cap n g:Nat}:∀(b:List Value) (o:Nat) (w:X) (xs:List Value),gH w a t k (M ⟨g,0,U⟩) cap n xs->gH (w.setCells g o b) a t k (M ⟨g,0,U⟩) cap n (Qp xs o b)
 | [],_,_,_,h=>h
 | v::r,o,_,_,h=>gH.sets r (o+1) _ _ (fF h o v).1
section
variable {w w1:X} {S:Nat->Prop} {tE tb:Nat} {cap:Nat}
theorem jD.replace {q:List (iH×EvS)}{e:iH}{s:EvS}{g:Nat}{l:av}{bo:ak}{fU:Nat}
 (own:gH w 0 tE 12 (M ⟨g,0,U⟩) cap (q.length+1) (iY (q++[(e,s)]))) (d:S g)
 (ahead:∀p∈q,BQ w (fun k=>(S k∧k≠g)∧lastB e s≠M k) p.1 p.2)
 (bytes:gK w (fun k=>S k∧k≠g) tb s.bo s.fU e.bytes)
 (t:gK w1 (fun k=>lastB e s=M k∨w.heap.size<=k) tb bo fU l) (i:Turns (fun k=>lastB e s=M k) w w1) :
 jD (w1.setCells g (q.length*12) ((jC l).cells ⟨U,0,bo,fU,U,0⟩)) (gB S w) tE tb (M ⟨g,0,U⟩) cap (q.map (·.1)++[jC l])∧Turns S w (w1.setCells g (q.length*12) ((jC l).cells ⟨U,0,bo,fU,U,0⟩)):=by
 have b:∀k,lastB e s=M k->S k∧k≠g:=fun k h=>by
  unfold lastB at h;split at h
  . cases h
  . rcases bytes with ⟨_,_,j⟩ | ⟨v,_⟩
    . cases c:s.bo with
      | none=>rw[c] at h;cases h
      | some a=>rw[c] at h;injection h with h;subst h;exact j a c
    . contradiction
 have x:g<w.heap.size:=(own.block _ rfl).2;have m:Turns (fun k=>k=g) w1 (w1.setCells g (q.length*12) ((jC l).cells ⟨U,0,bo,fU,U,0⟩)):=gY g _ _ w1;have y:Turns S w (w1.setCells g (q.length*12) ((jC l).cells ⟨U,0,bo,fU,U,0⟩)):=(i.mono (fun k e=>(b k e).1)).trans (m.mono (fun k e=>by rw[e];exact d)) (fun _ e _=>e);have z:gH w1 0 tE 12 (M ⟨g,0,U⟩) cap (q.length+1) (iY (q++[(e,s)])):=own.turns i (fun a e h=>by injection e with e;subst e;exact(b _ h).2 rfl);have u:=gH.sets ((jC l).cells ⟨U,0,bo,fU,U,0⟩) (q.length*12) w1 _ z;have B:iY (q++[(e,s)])=iY q++e.cells s:=by rw[nR];simp[iY]
 have n:iY (q++[(jC l,(⟨U,0,bo,fU,U,0⟩:EvS))])=iY q++(jC l).cells ⟨U,0,bo,fU,U,0⟩:=by rw[nR];simp[iY]
 have f:=Gq ((jC l).cells ⟨U,0,bo,fU,U,0⟩) (iY q) (e.cells s) rfl;rw[nQ] at f;rw[B,f,<-n] at u;refine⟨?_,y⟩;have o:∀k,lastB (jC l) ⟨U,0,bo,fU,U,0⟩=M k->lastB e s=M k∨w.heap.size<=k:=fun k h=>by
  unfold lastB jC at h;simp only at h;split at h
  . cases h
  . rcases t with ⟨_,_,j⟩ | ⟨v,_⟩
    . cases c:bo with
      | none=>rw[c] at h;cases h
      | some a=>rw[c] at h;injection h with h;subst h;exact j a c
    . contradiction
 have r:∀k,k<w.heap.size->((S k∧k≠g)∧lastB e s≠M k)->((gB S w k∧k≠g)∧lastB (jC l) ⟨U,0,bo,fU,U,0⟩≠M k)∧lastB e s≠M k:=fun k D h=>⟨⟨⟨A h.1.1,h.1.2⟩,fun n=>by
  rcases o k n with f | f
  . exact h.2 f
  . omega⟩,h.2⟩
 refine .laid q (jC l) ⟨U,0,bo,fU,U,0⟩ g cap u (A d) (fun p C=>?_) (nN.nil _ _) (jI.nil _ _) ?_
 . exact(((ahead p C).mono r).turns i (fun k h=>h.2)).turns m (fun k h=>h.1.1.2) |>.mono (fun k _ h=>h.1)
 . refine(t.mono (S':=fun k=>gB S w k∧k≠g) (fun k _ h=>?_)).turns m (fun k h=>h.2);rcases h with h | h
   . exact⟨A (b k h).1,(b k h).2⟩
   . exact⟨R h,by omega⟩
end
theorem NN {P:Program}{d g:TypeId}(e:P.underlying d=M (.slice g)){W:X}{bo:ak}{cap n:Nat}{b:av}(h:gN W bo cap b)(i:b.length=n):Src P 1 d (Z bo n cap) n (ig b) W:=by
 subst i;cases bo with
 | none =>
   obtain⟨rfl,rfl⟩:=h.sH;exact Src.ofNil _ e 0
 | some a =>
   refine Src.ofSlice _ e a _ cap _ (by rw[gF];omega) (fun j u c=>?_) (sG b);have f:j<b.length:=by
    have:=(aQ.1 c).1;rwa[gF] at this
   rw[kF b j f] at c;injection c with c;subst c;exact h.cell j f
theorem rM {P:Program}(w:X)(t z C e:TypeId)(i:TypeInfo)(S:P.underlying t=M (.slice e))(T:P.info? e=M i)(hz:i.zero=M (I .u8 0))(c:i.size=1)(D:i.bytes=1)
 {p g cap n:Nat} {l l2:av} (h:Buf w p g cap l) (hn:l.length=n) (x:Value) (m:Nat) (G:Src P 1 z x m (ig l2) w) (W:n+m<=140737488355328) :
 ∃B b w',(Builtin.append_ #[t,z] C #[Z (M ⟨g,0,U⟩) n cap,x]).run P w=.ok (Z (M ⟨B,0,U⟩) (n+m) b) w'∧Buf w' p B b (l++l2)∧Turns (fun k=>k=g) w w'∧(B=g∨B=w.heap.size):=by
 subst hn;have hl2:l2.length=m:=by have:=G.newsLen;rw[gF] at this;omega
 have hhl:=h.le;rcases aT cap (l.length+m) with d | d
 . have q:(Builtin.firstCells i.size l.length (Z (M ⟨g,0,U⟩) l.length cap)).run P w.drew=.ok (ig l).toArray w.drew :=
    run_firstCells_some w.drew i.size l.length ⟨g,0,U⟩ l.length cap (ig l) (by rw[gF,c];omega) (fun j u a=>by rw[fQ,aZ];exact h.holds j u a)
   have r:=run_append_grow_src (P:=P) w t z C e i (I .u8 0) S T hz (M ⟨g,0,U⟩) l.length cap (ig l) q x m (ig l2) (by rw[c];exact G) d (by omega) (by rw[D];exact growslice_fits (by omega) (by omega));have H:=grownCap_ge w (l.length+m) cap e;have s:=grownCap_le_maxLen w (l.length+m) cap e (by unfold maxLen;omega);generalize grownCap w (l.length+m) cap e=b at r H s;have L:((ig l++ig l2).toArray++Builtin.zeroCells (Value.int .u8 0).cells (b-(l.length+m))).size=b:=by
    have c:(Value.int IntKind.u8 0).cells.size=1:=rfl;simp only[Array.size_append,bK,aV,gF,size_zeroCells,c];omega
   refine⟨_,_,_,r,⟨dB h.rD (Nat.le_of_lt h.lt),by simp,by rw[aV];omega,s,fun j u a=>?_,fun j a=>⟨?_,?_⟩⟩,⟨rfl,rfl,rfl,by simp,fun k N _=>Below.heap_alloc w.drew _ k N⟩,R rfl⟩
   . rw[show(w.drew.alloc (K ((ig l++ig l2).toArray++Builtin.zeroCells (Value.int .u8 0).cells (b-(l.length+m))) e)).cell? ⟨w.heap.size,j,U⟩=_ from fT w.drew _ _ j];rw[mE] at a;rw[Array.getElem?_append_left (by rw[bK];exact(aQ.1 a).1),dD];exact a
   . rw[show(w.drew.alloc (K ((ig l++ig l2).toArray++Builtin.zeroCells (Value.int .u8 0).cells (b-(l.length+m))) e)).cell? ⟨w.heap.size,j,U⟩=_ from fT w.drew _ _ j,dA (by rw[L];exact a)];rfl
   . exact(World.frozen?_alloc_mark w.drew _ e 0 0 j).trans (by simp)
 . have r:=run_append_room_src (P:=P) w t z C e i S T g 0 l.length cap x m (ig l2) (by rw[c];exact G) d (fun j a=>by rw[c,Nat.mul_one,aZ];rw[gF] at a;exact(h.there _ (by omega)).1) (fun j a=>by rw[c,Nat.mul_one,aZ];rw[gF] at a;exact(h.there _ (by omega)).2);rw[c,Nat.mul_one,aZ] at r;have hT:=gY g (ig l2) l.length w;have v:=World.cell?_setCells_in g (ig l2) l.length w (fun j a=>by rw[gF] at a;exact(h.there _ (by omega)).1);have o:=World.cell?_setCells_out g (ig l2) l.length w;refine⟨_,_,_,r,⟨h.rD,bZ h.lt hT.size,by rw[aV];omega,h.max,fun j u a=>?_,fun j a=>⟨?_,by rw[World.frozen?_setCells];exact(h.there j a).2⟩⟩,hT,A rfl⟩
   . rw[mE] at a;rcases aT j l.length with f | f
     . rw[aX (by rw[gF];exact f)] at a;rw[o ⟨g,j,U⟩ (fun _ _=>A f)];exact h.holds j u a
     . rw[bg (by rw[gF];exact f),gF] at a;obtain⟨k,rfl⟩:∃k,j=l.length+k:=⟨j-l.length,by omega⟩;rw[Nat.add_sub_cancel_left] at a;obtain⟨N,e⟩:=aQ.1 a;rw[v k N,e]
   . rcases aT j l.length with f | f
     . rw[o ⟨g,j,U⟩ (fun _ _=>A f)];exact(h.there j a).1
     . rcases aT j (l.length+(ig l2).length) with y | y
       . obtain⟨k,rfl⟩:∃k,j=l.length+k:=⟨j-l.length,by omega⟩;rw[v k (by omega)];rfl
       . rw[o ⟨g,j,U⟩ (fun _ _=>R y)];exact(h.there j a).1
theorem mh {P:Program}{w:X}{f:Array Oper}{rest:List Oper}{o:Oper}{a:Act}{aai:Exit->Act->X->Prop}(q:o.guard=U)(s x:Operand)(t r:TypeId)
 (B:o.op=.call { callee:=.builtin .append,args:=#[s,x],argTypes:=#[t,r] })
 (e:TypeId) (i:TypeInfo) (C:P.underlying t=M (.slice e)) (D:P.info? e=M i) (G:i.zero=M (I .u8 0)) (u:i.size=1) (v:i.bytes=1)
 {c g cap n:Nat} {l l2:av} (H:a.eval s=Z (M ⟨g,0,U⟩) n cap) (h:Buf w c g cap l) (L:l.length=n) (y:Value) (p:Nat) (N:a.eval x=y) (S:Src P 1 r y p (ig l2) w) (j:n+p<=140737488355328)
 (T:∀d b w',Buf w' c d b (l++l2)->Turns (fun k=>k=g) w w'->(d=g∨d=w.heap.size)->wpList P f aai rest (a.put o.dst (Z (M ⟨d,0,U⟩) (n+p) b)) w'):wpList P f aai (o::rest) a w:=by
 refine wpList_plain q fun W z=>?_;obtain⟨d,b,w',m,h1,h2,h3⟩:=rM (P:=P) w t r o.type e i C D G u v h L y p S j;unfold Oper.wp;simp[execOp,B,resolve,invoke,builtin,H,N,m,Result.andThen];exact z _ _ (T d b w' h1 h2 h3)
def uS (ao:ak)(cap:Nat)(l:av):Ob:=fun w S=>(ao=U∧cap=0∧l=[])∨∃g,ao=M ⟨g,0,U⟩∧Buf w 0 g cap l∧S g
theorem uS.law (ao:ak)(cap:Nat)(l:av):kE (uS ao cap l) where
 turns h ht hs:=by
  rcases h with h | ⟨g,e,a,b⟩
  . exact A h
  . exact R ⟨g,e,a.turns ht (hs g b),b⟩
 mono h hs:=by
  rcases h with h | ⟨g,e,a,b⟩
  . exact A h
  . exact R ⟨g,e,a,hs g a.lt b⟩
theorem uS.nil (w:X)(S:Nat->Prop):uS U 0 [] w S:=A ⟨rfl,rfl,rfl⟩
theorem uS.tQ {ao:ak}{cap:Nat}{l:av}{w:X}{S:Nat->Prop}(h:uS ao cap l w S):gN w ao cap l:=by
 rcases h with ⟨rfl,rfl,rfl⟩ | ⟨g,rfl,a,_⟩
 . exact gN.nil w
 . exact a.tQ
theorem Fh {P:Program}(w:X)(t q v e:TypeId)(i:TypeInfo)(C:P.underlying t=M (.slice e))(D:P.info? e=M i)(G:i.zero=M (I .u8 0))(d:i.size=1)(f:i.bytes=1)
 {S:Nat->Prop} {ao:ak} {cap n:Nat} {l l2:av} (h:uS ao cap l w S) (H:l.length=n) (x:Value) (c:Nat) (hp:0<c) (y:Src P 1 q x c (ig l2) w) (b:n+c<=140737488355328) :
 ∃gJ a w',(Builtin.append_ #[t,q] v #[Z ao n cap,x]).run P w=.ok (Z gJ (n+c) a) w'∧uS gJ a (l++l2) w' (gB S w)∧Turns S w w':=by
 rcases h with ⟨rfl,rfl,rfl⟩ | ⟨g,rfl,N,L⟩
 . subst H;have T:l2.length=c:=by have:=y.newsLen;rw[gF] at this;omega
   have m:(Builtin.firstCells i.size 0 (Z U 0 0)).run P w.drew=.ok ([]:List Value).toArray w.drew:=by simp[Builtin.firstCells]
   have r:=run_append_grow_src (P:=P) w t q v e i (I .u8 0) C D G U 0 0 [] m x c (ig l2) (by rw[d];exact y) (by omega) (by simp at b;omega) (by rw[f];simp at b;exact growslice_fits (by omega) (by omega));have z:=grownCap_ge w (0+c) 0 e;have o:=grownCap_le_maxLen w (0+c) 0 e (by unfold maxLen;simp at b;omega);generalize grownCap w (0+c) 0 e=a at r z o;have B:((([]:List Value)++ig l2).toArray++Builtin.zeroCells (Value.int .u8 0).cells (a-(0+c))).size=a:=by
    have d:(Value.int IntKind.u8 0).cells.size=1:=rfl;simp only[Array.size_append,bK,aV,bY,gF,size_zeroCells,d];omega
   refine⟨_,_,_,r,R ⟨w.heap.size,rfl,⟨aA _,by simp,by rw[dx];omega,o,fun j u p=>?_,fun j p=>⟨?_,?_⟩⟩,R (aM _)⟩,⟨rfl,rfl,rfl,by simp,fun k W _=>Below.heap_alloc w.drew _ k W⟩⟩
   . rw[show(w.drew.alloc (K ((([]:List Value)++ig l2).toArray++Builtin.zeroCells (Value.int .u8 0).cells (a-(0+c))) e)).cell? ⟨w.heap.size,j,U⟩=_ from fT w.drew _ _ j];rw[dx] at p;rw[Array.getElem?_append_left (by rw[bK];exact(aQ.1 p).1),dD];exact p
   . rw[show(w.drew.alloc (K ((([]:List Value)++ig l2).toArray++Builtin.zeroCells (Value.int .u8 0).cells (a-(0+c))) e)).cell? ⟨w.heap.size,j,U⟩=_ from fT w.drew _ _ j,dA (by rw[B];exact p)];rfl
   . exact(World.frozen?_alloc_mark w.drew _ e 0 0 j).trans (by simp)
 . obtain⟨g',a,w',r,h1,h2,s⟩:=rM (P:=P) w t q v e i C D G d f N H x c y b;refine⟨_,a,w',r,R ⟨g',rfl,h1,?_⟩,h2.mono (fun k e=>by rw[e];exact L)⟩;rcases s with s | s
   . rw[s];exact A L
   . exact R (by omega)
theorem Eh {P:Program}{w:X}{d:Array Oper}{o:Oper}{a:Act}{f:Act->X->Prop}{aai:Exit->Act->X->Prop}{E:Prop}(j:o.guard=U)(s x:Operand)(t u:TypeId)(q:o.op=.call { callee:=.builtin .append,args:=#[s,x],argTypes:=#[t,u] })
 (e:TypeId) (i:TypeInfo) (r:P.underlying t=M (.slice e)) (v:P.underlying u=M .string) (y:P.info? e=M i) (z:i.zero=M (I .u8 0)) (m:i.size=1) (p:i.bytes=1)
 {S:Nat->Prop} {ao:ak} {cap n:Nat} {l:av} (B:a.eval s=Z ao n cap) (C:l.length=n) (D:uS ao cap l w S) (c:ay) (k:Nat) (G:c.size=k) (H:0<k) (L:a.eval x=V c) (g:n+k<=140737488355328)
 (h:∀gJ b w',uS gJ b (l++c.data.toList) w' (gB S w)->Turns S w w'->f (a.put o.dst (Z gJ (n+k) b)) w') :
 if Region.wanted o (yielded d a.tmps)=true then Oper.wp P o a w f aai else E:=by
 have N:Region.wanted o (yielded d a.tmps)=true:=by simp[Region.wanted,j]
 rw[if_pos N];subst G;obtain⟨gJ,b,w',T,W,h2⟩:=Fh (P:=P) w t u o.type e i r y z m p D C (V c) c.size H (vL v c w) g;unfold Oper.wp execOp;simp only[q,resolve,invoke,builtin,Sem.run_bind,Sem.run_pure,Result.andThen_ok,List.map_toArray,List.map_cons,List.map_nil,B,L,T];exact h gJ b w' W h2
section
end
section
end
end Go.Proofs.YthhklgjjnaeaoaaGreatDoor