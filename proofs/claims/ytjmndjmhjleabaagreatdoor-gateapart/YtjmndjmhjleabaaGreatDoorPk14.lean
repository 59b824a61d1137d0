/- Small texts, one behind the other: MemF, MemP, MemFS, MemX, MemZ, MemW, MemY. -/
import Derived.Test.YtjmndjmhjleabaaGreatDoorPk11
import Derived.Test.YtjmndjmhjleabaaGreatDoorPk4
import Derived.Deep.AppendSrc
open Go.Value renaming string->V,slice->Z
open Go.Obj renaming cells->K
open Option renaming none->U,some->M
open Or renaming inl->A
open Go renaming World->X
namespace Go.Proofs.YtjmndjmhjleabaaGreatDoor
open Go.RowKit
structure Buf (w:X)(base g cap:Nat)(l:au):Prop where
 Ic:base<=g
 lt:g<w.heap.size
 le:l.length<=cap
 max:cap<=maxLen
 holds:∀j u,(ji l)[j]? = M u->w.cell? ⟨g,j,U⟩=M u
 there:∀j,j<cap->(w.cell? ⟨g,j,U⟩).isSome=true∧w.frozen? ⟨g,j,U⟩=false
section
variable {w w':X} {base g cap:Nat} {l:au}
theorem Buf.of_block (h:Buf w base g cap l)(b:w'.heap[g]? = w.heap[g]?):Buf w' base g cap l:=by
 have c:g<w'.heap.size:=by
  have:(w'.heap[g]?).isSome=true:=by rw[b,dD h.lt];rfl
  rcases aT g w'.heap.size with e | e
  . exact e
  . rw[Array.getElem?_eq_none e] at this;cases this
 exact⟨h.Ic,c,h.le,h.max,fun j u d=>by rw[gF (a:=⟨g,j,U⟩) b];exact h.holds j u d,fun j d=>by rw[gF (a:=⟨g,j,U⟩) b,gG (a:=⟨g,j,U⟩) b];exact h.there j d⟩
theorem Buf.turns {S:Nat->Prop}(h:Buf w base g cap l)(a:Turns S w w')(b:¬S g):Buf w' base g cap l:=h.of_block (a.block g h.lt b)
theorem Buf.keep (h:Buf w base g cap l)(a:Below w.heap.size w w'):Buf w' base g cap l:=h.of_block (a.block g h.lt)
theorem Buf.alloc (h:Buf w base g cap l)(o:Obj):Buf (w.alloc o) base g cap l:=h.keep ((fI _ _).alloc (aL _) o)
theorem Buf.wZ (h:Buf w base g cap l):iG w (M ⟨g,0,U⟩) cap l :=
 ⟨h.le,(fun e=>by cases e),fun j a=>⟨_,rfl,by rw[gH,aZ];exact h.holds j _ (lQ l j a)⟩⟩
end
theorem gZ (g:Nat):∀(a:List Value) (o:Nat) (w:X),Turns (fun k=>k=g) w (w.setCells g o a)
 | [],_,w=>Turns.refl _ w
 | v::a,o,w=>(Turns.setCell (fun k=>k=g) w ⟨g,o,U⟩ v rfl).trans (gZ g a (o+1) _) (fun _ h _=>h)
theorem NR {P:Program}(W:X)(s:av)(a b e:TypeId)(m:s.size<=maxLen)(n:P.underlying a=M .string)(hd:P.underlying b=M (.slice e))(o:P.underlying e=M (.int .u8)):
 ∃cap k,(convert a b (V s)).run P W=.ok (Z (M ⟨W.heap.size,0,U⟩) s.size cap) k∧Below W.heap.size W k∧Buf k W.heap.size W.heap.size cap s.data.toList:=by
 refine⟨_,_,run_bytes_of_string (P:=P) W a b e s n hd o,((gP _ W).alloc (aL _) _),?_⟩;have f:=grownCap_ge W s.size 0 e;have g:=grownCap_le_maxLen W s.size 0 e m;generalize grownCap W s.size 0 e=cap at f g ⊢;have i:(bytesRow s cap).size=cap:=by
  unfold bytesRow;have:s.data.size=s.size:=rfl;simp only[Array.size_append,Array.size_map,Array.size_replicate,this];omega
 refine⟨aL _,by simp,by rw[Ch.iC];exact f,g,fun j u c=>?_,fun j c=>⟨?_,?_⟩⟩
 . have d:j<s.data.toList.length:=by
    have:=(aP.1 c).1;rwa[ig] at this
   rw[lQ _ j d] at c;injection c with c;subst c;have l:j<s.size:=by rw[Ch.iC] at d;exact d
   have:=World.cell?_alloc_mark W.drew (bytesRow s cap) e ((bytesRow s cap).size,(bytesRow s cap).size+1) j;refine this.trans ?_;rw[bytesRow_at s cap j l];simp
 . have:=World.cell?_alloc_mark W.drew (bytesRow s cap) e ((bytesRow s cap).size,(bytesRow s cap).size+1) j;rw[show(W.drew.alloc (K (bytesRow s cap) e ((bytesRow s cap).size,(bytesRow s cap).size+1))).cell? ⟨W.heap.size,j,U⟩=(bytesRow s cap)[j]? from this,dD (by rw[i];exact c)];rfl
 . refine(World.frozen?_alloc_mark W.drew (bytesRow s cap) e (bytesRow s cap).size ((bytesRow s cap).size+1) j).trans ?_;rw[aI (by rw[i];omega)];rfl
theorem Ed {P:Program}{a:TypeId}(b:P.underlying a=M .string)(s:av)(w:X):Src P 1 a (V s) s.size (ji s.data.toList) w:=Src.ofString w b s
def Qy:List Value->Nat->List Value->List Value
 | xs,_,[]=>xs
 | xs,o,v::r=>Qy (xs.set o v) (o+1) r
theorem Ih:∀(c a b:List Value),b.length=c.length->Qy (a++b) a.length c=a++c
 | [], a, b, h => by
   have d:b=[]:=dn (by simpa using h);rw[d];rfl
 | v::r,a,[],h=>by simp at h
 | v :: r, a, u :: b, h => by
   show Qy ((a++u::b).set a.length v) (a.length+1) r=a++v::r;have e:(a++u::b).set a.length v=(a++[v])++b:=by
    rw[bH _ _ (aL _),Nat.sub_self];simp
   rw[e];have:=Ih r (a++[v]) b (by simpa using h);rw[aV] at this;rw[show a.length+1=a.length+[v].length from rfl,this];simp
theorem gU.sets {a t k cap n g:Nat}:∀(b:List Value) (o:Nat) (w:X) (xs:List Value),gU w a t k (M ⟨g,0,U⟩) cap n xs->gU (w.setCells g o b) a t k (M ⟨g,0,U⟩) cap n (Qy xs o b)
 | [],_,_,_,h=>h
 | v::r,o,_,_,h=>gU.sets r (o+1) _ _ (fU h o v).1
section
variable {w w1:X} {S:Nat->Prop} {tE tb:Nat} {cap:Nat}
theorem jQ.replace {q:List (iM×EvS)}{e:iM}{s:EvS}{g:Nat}{l:au}{bo:aj}{gJ:Nat}
 (own:gU w 0 tE 12 (M ⟨g,0,U⟩) cap (q.length+1) (iW (q++[(e,s)]))) (d:S g)
 (ahead:∀p∈q,xY w (fun k=>(S k∧k≠g)∧lastB e s≠M k) p.1 p.2)
 (bytes:gY w (fun k=>S k∧k≠g) tb s.bo s.gJ e.bytes)
 (t:gY w1 (fun k=>lastB e s=M k∨w.heap.size<=k) tb bo gJ l) (i:Turns (fun k=>lastB e s=M k) w w1) :
 jQ (w1.setCells g (q.length*12) ((jX l).cells ⟨U,0,bo,gJ,U,0⟩)) (gM S w) tE tb (M ⟨g,0,U⟩) cap (q.map (·.1)++[jX l])∧Turns S w (w1.setCells g (q.length*12) ((jX l).cells ⟨U,0,bo,gJ,U,0⟩)):=by
 have b:∀k,lastB e s=M k->S k∧k≠g:=fun k h=>by
  unfold lastB at h;split at h
  . cases h
  . rcases bytes with ⟨_,_,j⟩ | ⟨v,_⟩
    . cases c:s.bo with
      | none=>rw[c] at h;cases h
      | some a=>rw[c] at h;injection h with h;subst h;exact j a c
    . contradiction
 have x:g<w.heap.size:=(own.block _ rfl).2;have m:Turns (fun k=>k=g) w1 (w1.setCells g (q.length*12) ((jX l).cells ⟨U,0,bo,gJ,U,0⟩)):=gZ g _ _ w1;have y:Turns S w (w1.setCells g (q.length*12) ((jX l).cells ⟨U,0,bo,gJ,U,0⟩)):=(i.mono (fun k e=>(b k e).1)).trans (m.mono (fun k e=>by rw[e];exact d)) (fun _ e _=>e);have z:gU w1 0 tE 12 (M ⟨g,0,U⟩) cap (q.length+1) (iW (q++[(e,s)])):=own.turns i (fun a e h=>by injection e with e;subst e;exact(b _ h).2 rfl);have u:=gU.sets ((jX l).cells ⟨U,0,bo,gJ,U,0⟩) (q.length*12) w1 _ z;have B:iW (q++[(e,s)])=iW q++e.cells s:=by rw[mX];simp[iW]
 have n:iW (q++[(jX l,(⟨U,0,bo,gJ,U,0⟩:EvS))])=iW q++(jX l).cells ⟨U,0,bo,gJ,U,0⟩:=by rw[mX];simp[iW]
 have f:=Ih ((jX l).cells ⟨U,0,bo,gJ,U,0⟩) (iW q) (e.cells s) rfl;rw[mW] at f;rw[B,f,<-n] at u;refine⟨?_,y⟩;have o:∀k,lastB (jX l) ⟨U,0,bo,gJ,U,0⟩=M k->lastB e s=M k∨w.heap.size<=k:=fun k h=>by
  unfold lastB jX at h;simp only at h;split at h
  . cases h
  . rcases t with ⟨_,_,j⟩ | ⟨v,_⟩
    . cases c:bo with
      | none=>rw[c] at h;cases h
      | some a=>rw[c] at h;injection h with h;subst h;exact j a c
    . contradiction
 have r:∀k,k<w.heap.size->((S k∧k≠g)∧lastB e s≠M k)->((gM S w k∧k≠g)∧lastB (jX l) ⟨U,0,bo,gJ,U,0⟩≠M k)∧lastB e s≠M k:=fun k D h=>⟨⟨⟨A h.1.1,h.1.2⟩,fun n=>by
  rcases o k n with f | f
  . exact h.2 f
  . omega⟩,h.2⟩
 refine .laid q (jX l) ⟨U,0,bo,gJ,U,0⟩ g cap u (A d) (fun p C=>?_) (nD.nil _ _) (jZ.nil _ _) ?_
 . exact(((ahead p C).mono r).turns i (fun k h=>h.2)).turns m (fun k h=>h.1.1.2) |>.mono (fun k _ h=>h.1)
 . refine(t.mono (S':=fun k=>gM S w k∧k≠g) (fun k _ h=>?_)).turns m (fun k h=>h.2);rcases h with h | h
   . exact⟨A (b k h).1,(b k h).2⟩
   . exact⟨Or.inr h,by omega⟩
end
theorem Ol {P:Program}{d g:TypeId}(e:P.underlying d=M (.slice g)){W:X}{bo:aj}{cap n:Nat}{b:au}(h:iG W bo cap b)(i:b.length=n):Src P 1 d (Z bo n cap) n (ji b) W:=by
 subst i;cases bo with
 | none =>
   obtain⟨rfl,rfl⟩:=h.ru;exact Src.ofNil _ e 0
 | some a =>
   refine Src.ofSlice _ e a _ cap _ (by rw[ig];omega) (fun j u c=>?_) (wY b);have f:j<b.length:=by
    have:=(aP.1 c).1;rwa[ig] at this
   rw[lQ b j f] at c;injection c with c;subst c;exact h.cell j f
theorem sU {P:Program}(w:X)(t z C e:TypeId)(i:TypeInfo)(O:P.underlying t=M (.slice e))(S:P.info? e=M i)(hz:i.zero=M (.int .u8 0))(c:i.size=1)(D:i.bytes=1)
 {p g cap n:Nat} {l l2:au} (h:Buf w p g cap l) (hn:l.length=n) (x:Value) (m:Nat) (G:Src P 1 z x m (ji l2) w) (T:n+m<=140737488355328) :
 ∃B b w',(Builtin.append_ #[t,z] C #[Z (M ⟨g,0,U⟩) n cap,x]).run P w=.ok (Z (M ⟨B,0,U⟩) (n+m) b) w'∧Buf w' p B b (l++l2)∧Turns (fun k=>k=g) w w'∧(B=g∨B=w.heap.size):=by
 subst hn;have hl2:l2.length=m:=by have:=G.newsLen;rw[ig] at this;omega
 have hhl:=h.le;rcases aT cap (l.length+m) with d | d
 . have q:(Builtin.firstCells i.size l.length (Z (M ⟨g,0,U⟩) l.length cap)).run P w.drew=.ok (ji l).toArray w.drew :=
    run_firstCells_some w.drew i.size l.length ⟨g,0,U⟩ l.length cap (ji l) (by rw[ig,c];omega) (fun j u a=>by rw[gH,aZ];exact h.holds j u a)
   have r:=run_append_grow_src (P:=P) w t z C e i (.int .u8 0) O S hz (M ⟨g,0,U⟩) l.length cap (ji l) q x m (ji l2) (by rw[c];exact G) d (by omega) (by rw[D];exact growslice_fits (by omega) (by omega));have H:=grownCap_ge w (l.length+m) cap e;have s:=grownCap_le_maxLen w (l.length+m) cap e (by unfold maxLen;omega);generalize grownCap w (l.length+m) cap e=b at r H s;have L:((ji l++ji l2).toArray++Builtin.zeroCells (Value.int .u8 0).cells (b-(l.length+m))).size=b:=by
    have c:(Value.int IntKind.u8 0).cells.size=1:=rfl;simp only[Array.size_append,bL,aV,ig,size_zeroCells,c];omega
   refine⟨_,_,_,r,⟨dF h.Ic (Nat.le_of_lt h.lt),by simp,by rw[aV];omega,s,fun j u a=>?_,fun j a=>⟨?_,?_⟩⟩,⟨rfl,rfl,rfl,by simp,fun k N _=>Below.heap_alloc w.drew _ k N⟩,Or.inr rfl⟩
   . rw[show(w.drew.alloc (K ((ji l++ji l2).toArray++Builtin.zeroCells (Value.int .u8 0).cells (b-(l.length+m))) e)).cell? ⟨w.heap.size,j,U⟩=_ from gI w.drew _ _ j];rw[qz] at a;rw[Array.getElem?_append_left (by rw[bL];exact(aP.1 a).1),dG];exact a
   . rw[show(w.drew.alloc (K ((ji l++ji l2).toArray++Builtin.zeroCells (Value.int .u8 0).cells (b-(l.length+m))) e)).cell? ⟨w.heap.size,j,U⟩=_ from gI w.drew _ _ j,dD (by rw[L];exact a)];rfl
   . exact(World.frozen?_alloc_mark w.drew _ e 0 0 j).trans (by simp)
 . have r:=run_append_room_src (P:=P) w t z C e i O S g 0 l.length cap x m (ji l2) (by rw[c];exact G) d (fun j a=>by rw[c,Nat.mul_one,aZ];rw[ig] at a;exact(h.there _ (by omega)).1) (fun j a=>by rw[c,Nat.mul_one,aZ];rw[ig] at a;exact(h.there _ (by omega)).2);rw[c,Nat.mul_one,aZ] at r;have W:=gZ g (ji l2) l.length w;have v:=World.cell?_setCells_in g (ji l2) l.length w (fun j a=>by rw[ig] at a;exact(h.there _ (by omega)).1);have o:=World.cell?_setCells_out g (ji l2) l.length w;refine⟨_,_,_,r,⟨h.Ic,cu h.lt W.size,by rw[aV];omega,h.max,fun j u a=>?_,fun j a=>⟨?_,by rw[World.frozen?_setCells];exact(h.there j a).2⟩⟩,W,A rfl⟩
   . rw[qz] at a;rcases aT j l.length with f | f
     . rw[aX (by rw[ig];exact f)] at a;rw[o ⟨g,j,U⟩ (fun _ _=>A f)];exact h.holds j u a
     . rw[bq (by rw[ig];exact f),ig] at a;obtain⟨k,rfl⟩:∃k,j=l.length+k:=⟨j-l.length,by omega⟩;rw[Nat.add_sub_cancel_left] at a;obtain⟨N,e⟩:=aP.1 a;rw[v k N,e]
   . rcases aT j l.length with f | f
     . rw[o ⟨g,j,U⟩ (fun _ _=>A f)];exact(h.there j a).1
     . rcases aT j (l.length+(ji l2).length) with y | y
       . obtain⟨k,rfl⟩:∃k,j=l.length+k:=⟨j-l.length,by omega⟩;rw[v k (by omega)];rfl
       . rw[o ⟨g,j,U⟩ (fun _ _=>Or.inr y)];exact(h.there j a).1
theorem mO {P:Program}{w:X}{f:Array Oper}{rest:List Oper}{o:Oper}{a:Act}{B:Exit->Act->X->Prop}(q:o.guard=U)(s x:Operand)(t r:TypeId)
 (C:o.op=.call { callee:=.builtin .append,args:=#[s,x],argTypes:=#[t,r] })
 (e:TypeId) (i:TypeInfo) (D:P.underlying t=M (.slice e)) (G:P.info? e=M i) (H:i.zero=M (.int .u8 0)) (u:i.size=1) (v:i.bytes=1)
 {c g cap n:Nat} {l l2:au} (L:a.eval s=Z (M ⟨g,0,U⟩) n cap) (h:Buf w c g cap l) (N:l.length=n) (y:Value) (p:Nat) (O:a.eval x=y) (S:Src P 1 r y p (ji l2) w) (j:n+p<=140737488355328)
 (T:∀d b w',Buf w' c d b (l++l2)->Turns (fun k=>k=g) w w'->(d=g∨d=w.heap.size)->wpList P f B rest (a.put o.dst (Z (M ⟨d,0,U⟩) (n+p) b)) w'):wpList P f B (o::rest) a w:=by
 refine wpList_plain q fun ae z=>?_;obtain⟨d,b,w',m,W,h2,h3⟩:=sU (P:=P) w t r o.type e i D G H u v h N y p S j;unfold Oper.wp;simp[execOp,C,resolve,invoke,builtin,L,O,m,Result.andThen];exact z _ _ (T d b w' W h2 h3)
def vN (ao:aj)(cap:Nat)(l:au):Ob:=fun w S=>(ao=U∧cap=0∧l=[])∨∃g,ao=M ⟨g,0,U⟩∧Buf w 0 g cap l∧S g
theorem vN.law (ao:aj)(cap:Nat)(l:au):lN (vN ao cap l) where
 turns h ht hs:=by
  rcases h with h | ⟨g,e,a,b⟩
  . exact A h
  . exact Or.inr ⟨g,e,a.turns ht (hs g b),b⟩
 mono h hs:=by
  rcases h with h | ⟨g,e,a,b⟩
  . exact A h
  . exact Or.inr ⟨g,e,a,hs g a.lt b⟩
theorem vN.nil (w:X)(S:Nat->Prop):vN U 0 [] w S:=A ⟨rfl,rfl,rfl⟩
theorem vN.wZ {ao:aj}{cap:Nat}{l:au}{w:X}{S:Nat->Prop}(h:vN ao cap l w S):iG w ao cap l:=by
 rcases h with ⟨rfl,rfl,rfl⟩ | ⟨g,rfl,a,_⟩
 . exact iG.nil w
 . exact a.wZ
theorem F5 {P:Program}(w:X)(t q v e:TypeId)(i:TypeInfo)(C:P.underlying t=M (.slice e))(D:P.info? e=M i)(G:i.zero=M (.int .u8 0))(d:i.size=1)(f:i.bytes=1)
 {S:Nat->Prop} {ao:aj} {cap n:Nat} {l l2:au} (h:vN ao cap l w S) (H:l.length=n) (x:Value) (c:Nat) (hp:0<c) (y:Src P 1 q x c (ji l2) w) (b:n+c<=140737488355328) :
 ∃gV a w',(Builtin.append_ #[t,q] v #[Z ao n cap,x]).run P w=.ok (Z gV (n+c) a) w'∧vN gV a (l++l2) w' (gM S w)∧Turns S w w':=by
 rcases h with ⟨rfl,rfl,rfl⟩ | ⟨g,rfl,N,L⟩
 . subst H;have O:l2.length=c:=by have:=y.newsLen;rw[ig] at this;omega
   have m:(Builtin.firstCells i.size 0 (Z U 0 0)).run P w.drew=.ok ([]:List Value).toArray w.drew:=by simp[Builtin.firstCells]
   have r:=run_append_grow_src (P:=P) w t q v e i (.int .u8 0) C D G U 0 0 [] m x c (ji l2) (by rw[d];exact y) (by omega) (by simp at b;omega) (by rw[f];simp at b;exact growslice_fits (by omega) (by omega));have z:=grownCap_ge w (0+c) 0 e;have o:=grownCap_le_maxLen w (0+c) 0 e (by unfold maxLen;simp at b;omega);generalize grownCap w (0+c) 0 e=a at r z o;have B:((([]:List Value)++ji l2).toArray++Builtin.zeroCells (Value.int .u8 0).cells (a-(0+c))).size=a:=by
    have d:(Value.int IntKind.u8 0).cells.size=1:=rfl;simp only[Array.size_append,bL,aV,bZ,ig,size_zeroCells,d];omega
   refine⟨_,_,_,r,Or.inr ⟨w.heap.size,rfl,⟨ay _,by simp,by rw[dx];omega,o,fun j u p=>?_,fun j p=>⟨?_,?_⟩⟩,Or.inr (aL _)⟩,⟨rfl,rfl,rfl,by simp,fun k T _=>Below.heap_alloc w.drew _ k T⟩⟩
   . rw[show(w.drew.alloc (K ((([]:List Value)++ji l2).toArray++Builtin.zeroCells (Value.int .u8 0).cells (a-(0+c))) e)).cell? ⟨w.heap.size,j,U⟩=_ from gI w.drew _ _ j];rw[dx] at p;rw[Array.getElem?_append_left (by rw[bL];exact(aP.1 p).1),dG];exact p
   . rw[show(w.drew.alloc (K ((([]:List Value)++ji l2).toArray++Builtin.zeroCells (Value.int .u8 0).cells (a-(0+c))) e)).cell? ⟨w.heap.size,j,U⟩=_ from gI w.drew _ _ j,dD (by rw[B];exact p)];rfl
   . exact(World.frozen?_alloc_mark w.drew _ e 0 0 j).trans (by simp)
 . obtain⟨W,a,w',r,h1,h2,s⟩:=sU (P:=P) w t q v e i C D G d f N H x c y b;refine⟨_,a,w',r,Or.inr ⟨W,rfl,h1,?_⟩,h2.mono (fun k e=>by rw[e];exact L)⟩;rcases s with s | s
   . rw[s];exact A L
   . exact Or.inr (by omega)
theorem EJ {P:Program}{w:X}{d:Array Oper}{o:Oper}{a:Act}{p:Act->X->Prop}{q:Exit->Act->X->Prop}{E:Prop}(g:o.guard=U)(s x:Operand)(t u:TypeId)(r:o.op=.call { callee:=.builtin .append,args:=#[s,x],argTypes:=#[t,u] })
 (e:TypeId) (i:TypeInfo) (v:P.underlying t=M (.slice e)) (y:P.underlying u=M .string) (z:P.info? e=M i) (B:i.zero=M (.int .u8 0)) (j:i.size=1) (m:i.bytes=1)
 {S:Nat->Prop} {ao:aj} {cap n:Nat} {l:au} (C:a.eval s=Z ao n cap) (D:l.length=n) (G:vN ao cap l w S) (c:av) (k:Nat) (H:c.size=k) (L:0<k) (N:a.eval x=V c) (f:n+k<=140737488355328)
 (h:∀gV b w',vN gV b (l++c.data.toList) w' (gM S w)->Turns S w w'->p (a.put o.dst (Z gV (n+k) b)) w') :
 if Region.wanted o (yielded d a.tmps)=true then Oper.wp P o a w p q else E:=by
 have O:Region.wanted o (yielded d a.tmps)=true:=by simp[Region.wanted,g]
 rw[if_pos O];subst H;obtain⟨gV,b,w',T,W,h2⟩:=F5 (P:=P) w t u o.type e i v z B j m G D (V c) c.size L (Ed y c w) f;unfold Oper.wp execOp;simp only[r,resolve,invoke,builtin,Sem.run_bind,Sem.run_pure,Result.andThen_ok,List.map_toArray,List.map_cons,List.map_nil,C,N,T];exact h gV b w' W h2
section
end
def kL (w:X)(base tE:Nat)(ao:aj)(cap:Nat)(es:List iM):Prop :=
 ∃ps:List (iM×EvS),ps.map (·.1)=es∧gU w base tE 12 ao cap es.length (iW ps)∧∀p∈ps,xY w (fun k=>base<=k∧gK ao≠M k) p.1 p.2
section
variable {w w':X} {base tE tb:Nat} {ao gV:aj} {cap cap' n:Nat} {es:List iM}
theorem kL.nil (w:X)(base tE:Nat):kL w base tE U 0 []:=⟨[],rfl,gU.nil _ _ _ _,fun p a=>(by cases a)⟩
theorem kL.stay (h:kL w base tE ao cap es)(a:Below w.heap.size w w'):kL w' base tE ao cap es:=by
 obtain⟨b,c,d,f⟩:=h;exact⟨b,c,d.stay a,fun p g=>(f p g).turns (Turns.of_below (S:=fun _=>False) a) (fun _ _ e=>e)⟩
theorem kL.abt (h:kL w base tE ao cap es):FT w ao cap es:=by
 obtain⟨d,rfl,g,k⟩:=h;have e:=g.nP;refine⟨e.1,e.2.1,fun j l=>?_⟩;have c:j<d.length:=by simpa using l
 have m:0<(iW d).length:=by rw[mW];omega
 obtain⟨b,o,rfl,p⟩:=e.lit m;refine⟨b,o,d[j].2,rfl,?_⟩;rw[aF];have a:=k _ (aB c);refine⟨fun i u f=>?_,a.fields.is,a.bytes.is,a.iq.is⟩;have q:i<12:=(aP.1 f).1;rw[<-rA _ j c i q] at f;have:=p _ _ f;rw[bK];exact this
theorem kL.more {a:List (iM×EvS)}{e:iM}{s:EvS}(j:∀p∈a,xY w (fun k=>base<=k∧gK ao≠M k) p.1 p.2)(l:xY w (fun k=>base<=k∧gK ao≠M k) e s)
 (m:gU w' base tE 12 gV cap' n (iW a++e.cells s)) (o:n=a.length+1) (q:w.grownBy w' (gK ao)) (c:gK gV=gK ao∨gK gV=M w.heap.size) :
 kL w' base tE gV cap' (a.map (·.1)++[e]):=by
 subst o;have r:Turns (fun k=>gK ao=M k) w w':=Turns.iY q (fun k e=>e);have d:∀k,k<w.heap.size->gK ao≠M k->gK gV≠M k:=fun k i h e=>by
  rcases c with g | g
  . rw[g] at e;exact h e
  . rw[g] at e;injection e with e;omega
 refine⟨a++[(e,s)],by simp,?_,fun p b=>?_⟩
 . rw[mX];have t:iW [(e,s)]=e.cells s:=by simp[iW]
   rw[t];simpa using m
 . have f:xY w (fun k=>base<=k∧gK ao≠M k) p.1 p.2:=by
    rcases bA.1 b with b | b
    . exact j p b
    . rw[bB.1 b];exact l
   exact(f.mono (S':=fun k=>(base<=k∧gK ao≠M k)∧k<w.heap.size) (fun k i e=>⟨e,i⟩)).turns r (fun k e=>e.1.2) |>.mono (fun k _ e=>⟨e.1.1,d k e.2 e.1.2⟩)
end
theorem kL.push {W:X}{b g:Nat}{ao:aj}{cap:Nat}{es:List iM}(h:kL W b g ao cap es)(d:Obj):∃i:List (iM×EvS),gU (W.alloc d) b g 12 ao cap es.length (iW i) ∧
 ∀gV c w' e s,xY W (fun k=>b<=k∧gK ao≠M k) e s->gU w' b g 12 gV c (es.length+1) (iW i++e.cells s)->(W.alloc d).grownBy w' (gK ao)->(gK gV=gK ao∨gK gV=M (W.alloc d).heap.size)->kL w' b g gV c (es++[e])∧Turns (fun k=>b<=k) (W.alloc d) w':=by
 obtain⟨i,f,l,r⟩:=h;have m:Below W.heap.size W (W.alloc d):=(fI _ _).alloc (aL _) _;have n:=Turns.of_below (S:=fun _=>False) m;refine⟨i,l.stay m,fun gV c w' e s t o q j=>⟨?_,Turns.iY q (fun k e=>?_)⟩⟩
 . rw[<-f];exact kL.more (fun p u=>(r p u).turns n (fun _ _ e=>e)) (t.turns n (fun _ _ e=>e)) (by rw[<-f] at o;simpa using o) rfl q j
 . cases ao with
   | none=>cases e
   | some a=>injection e with e;subst e;exact(l.block a rfl).1
theorem kL.row {W:X}{b c:Nat}{ao:aj}{cap:Nat}{es:List iM}(h:kL W b c ao cap es)(k:Nat)(e:gK ao=M k):b<=k∧k<W.heap.size:=by
 obtain⟨g,d,f,i⟩:=h;cases ao with
 | none=>cases e
 | some a=>injection e with e;subst e;exact f.block a rfl
end Go.Proofs.YtjmndjmhjleabaaGreatDoor