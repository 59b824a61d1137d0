/- Small texts, one behind the other: MemF, MemP, MemFS, MemX, MemZ, MemW, MemY. -/
import Derived.Test.YtjmndjmhjleabaaGreatDoorAl
import Derived.Test.YtjmndjmhjleabaaGreatDoorAm
import Derived.Test.YtjmndjmhjleabaaGreatDoorPk11
import Derived.Test.YtjmndjmhjleabaaGreatDoorPk4
import Derived.Deep.AppendSrc
import Derived.Laws.IdiomCopy
import Derived.Test.YtjmndjmhjleabaaGreatDoorPk1
namespace Go.Proofs.YtjmndjmhjleabaaGreatDoor
open Go.RowKit
structure Buf (w:World)(base g cap:Nat)(l:av):Prop where
 Ie:base<=g
 lt:g<w.heap.size
 le:l.length<=cap
 max:cap<=maxLen
 holds:∀j u,(jk l)[j]? = some u->w.cell? ⟨g,j,none⟩=some u
 there:∀j,j<cap->(w.cell? ⟨g,j,none⟩).isSome=true∧w.frozen? ⟨g,j,none⟩=false
section
variable {w w':World} {base g cap:Nat} {l:av}
theorem Buf.of_block (h:Buf w base g cap l)(hb:w'.heap[g]? = w.heap[g]?):Buf w' base g cap l:=by
 have hlt:g<w'.heap.size:=by
  have:(w'.heap[g]?).isSome=true:=by rw[hb,dF h.lt];rfl
  rcases aU g w'.heap.size with e | e
  . exact e
  . rw[Array.getElem?_eq_none e] at this;cases this
 exact⟨h.Ie,hlt,h.le,h.max,fun j u hj=>by rw[gG (a:=⟨g,j,none⟩) hb];exact h.holds j u hj,fun j hj=>by rw[gG (a:=⟨g,j,none⟩) hb,gH (a:=⟨g,j,none⟩) hb];exact h.there j hj⟩
theorem Buf.turns {S:Nat->Prop}(h:Buf w base g cap l)(ht:Turns S w w')(hn:¬S g):Buf w' base g cap l:=h.of_block (ht.block g h.lt hn)
theorem Buf.keep (h:Buf w base g cap l)(hb:aj w w'):Buf w' base g cap l:=h.of_block (hb.block g h.lt)
theorem Buf.alloc (h:Buf w base g cap l)(o:Obj):Buf (w.alloc o) base g cap l:=h.keep ((fJ _ _).alloc (aM _) o)
theorem Buf.xg (h:Buf w base g cap l):iH w (some ⟨g,0,none⟩) cap l :=
 ⟨h.le,(fun e=>by cases e),fun j hj=>⟨_,rfl,by rw[gI,bq];exact h.holds j _ (lS l j hj)⟩⟩
end
theorem ig (g:Nat):∀(vs:List Value) (o:Nat) (w:World),Turns (fun k=>k=g) w (w.setCells g o vs)
 | [],_,w=>Turns.refl _ w
 | v::vs,o,w=>(Turns.setCell (fun k=>k=g) w ⟨g,o,none⟩ v rfl).trans (ig g vs (o+1) _) (fun _ h _=>h)
theorem NS {P:Program}(W:World)(s:ay)(src dst e:TypeId)(hz:s.size<=maxLen)(hs:P.underlying src=some .string)(hd:P.underlying dst=some (.slice e))(he:P.underlying e=some (.int .u8)):
 ∃cap w1,(convert src dst (.string s)).run P W=.ok (.slice (some ⟨W.heap.size,0,none⟩) s.size cap) w1∧aj W w1∧Buf w1 W.heap.size W.heap.size cap s.data.toList:=by
 refine⟨_,_,run_bytes_of_string (P:=P) W src dst e s hs hd he,((gQ _ W).alloc (aM _) _),?_⟩;have hge:=grownCap_ge W s.size 0 e;have hle:=grownCap_le_maxLen W s.size 0 e hz;generalize grownCap W s.size 0 e=cap at hge hle ⊢;have hsz:(bytesRow s cap).size=cap:=by
  unfold bytesRow;have:s.data.size=s.size:=rfl;simp only[Array.size_append,Array.size_map,Array.size_replicate,this];omega
 refine⟨aM _,by simp,by rw[Ch.iD];exact hge,hle,fun j u hj=>?_,fun j hj=>⟨?_,?_⟩⟩
 . have hjl:j<s.data.toList.length:=by
    have:=(aQ.1 hj).1;rwa[iq] at this
   rw[lS _ j hjl] at hj;injection hj with hj;subst hj;have hjs:j<s.size:=by rw[Ch.iD] at hjl;exact hjl
   have:=World.cell?_alloc_mark W.drew (bytesRow s cap) e ((bytesRow s cap).size,(bytesRow s cap).size+1) j;refine this.trans ?_;rw[bytesRow_at s cap j hjs];simp
 . have:=World.cell?_alloc_mark W.drew (bytesRow s cap) e ((bytesRow s cap).size,(bytesRow s cap).size+1) j;rw[show(W.drew.alloc (.cells (bytesRow s cap) e ((bytesRow s cap).size,(bytesRow s cap).size+1))).cell? ⟨W.heap.size,j,none⟩=(bytesRow s cap)[j]? from this,dF (by rw[hsz];exact hj)];rfl
 . refine(World.frozen?_alloc_mark W.drew (bytesRow s cap) e (bytesRow s cap).size ((bytesRow s cap).size+1) j).trans ?_;rw[aJ (by rw[hsz];omega)];rfl
theorem Ee {P:Program}{tx:TypeId}(hk:P.underlying tx=some .string)(s:ay)(w:World):Src P 1 tx (.string s) s.size (jk s.data.toList) w:=Src.ofString w hk s
def Qz:List Value->Nat->List Value->List Value
 | xs,_,[]=>xs
 | xs,o,v::r=>Qz (xs.set o v) (o+1) r
theorem Ii:∀(vs a b:List Value),b.length=vs.length->Qz (a++b) a.length vs=a++vs
 | [], a, b, h => by
   have hb:b=[]:=dw (by simpa using h);rw[hb];rfl
 | v::r,a,[],h=>by simp at h
 | v :: r, a, u :: b, h => by
   show Qz ((a++u::b).set a.length v) (a.length+1) r=a++v::r;have e:(a++u::b).set a.length v=(a++[v])++b:=by
    rw[bI _ _ (aM _),Nat.sub_self];simp
   rw[e];have:=Ii r (a++[v]) b (by simpa using h);rw[aW] at this;rw[show a.length+1=a.length+[v].length from rfl,this];simp
theorem gV.sets {base t k cap n g:Nat}:∀(vs:List Value) (o:Nat) (w:World) (xs:List Value),gV w base t k (some ⟨g,0,none⟩) cap n xs->gV (w.setCells g o vs) base t k (some ⟨g,0,none⟩) cap n (Qz xs o vs)
 | [],_,_,_,h=>h
 | v::r,o,_,_,h=>gV.sets r (o+1) _ _ (fV h o v).1
section
variable {w w1:World} {S:Nat->Prop} {tE tb:Nat} {cap:Nat}
theorem jR.replace {q:List (iN×EvS)}{e:iN}{s:EvS}{g:Nat}{l:av}{bo:ak}{gK:Nat}
 (own:gV w 0 tE 12 (some ⟨g,0,none⟩) cap (q.length+1) (iX (q++[(e,s)]))) (mem:S g)
 (ahead:∀p∈q,xZ w (fun k=>(S k∧k≠g)∧lastB e s≠some k) p.1 p.2)
 (bytes:gZ w (fun k=>S k∧k≠g) tb s.bo s.gK e.bytes)
 (hO:gZ w1 (fun k=>lastB e s=some k∨w.heap.size<=k) tb bo gK l) (hT:Turns (fun k=>lastB e s=some k) w w1) :
 jR (w1.setCells g (q.length*12) ((jY l).cells ⟨none,0,bo,gK,none,0⟩)) (gN S w) tE tb (some ⟨g,0,none⟩) cap (q.map (·.1)++[jY l])∧Turns S w (w1.setCells g (q.length*12) ((jY l).cells ⟨none,0,bo,gK,none,0⟩)):=by
 have hlast:∀k,lastB e s=some k->S k∧k≠g:=fun k h=>by
  unfold lastB at h;split at h
  . cases h
  . rcases bytes with ⟨_,_,h3⟩ | ⟨h1,_⟩
    . cases rD:s.bo with
      | none=>rw[rD] at h;cases h
      | some a=>rw[rD] at h;injection h with h;subst h;exact h3 a rD
    . contradiction
 have hgl:g<w.heap.size:=(own.block _ rfl).2;have hS:Turns (fun k=>k=g) w1 (w1.setCells g (q.length*12) ((jY l).cells ⟨none,0,bo,gK,none,0⟩)):=ig g _ _ w1;have jV:Turns S w (w1.setCells g (q.length*12) ((jY l).cells ⟨none,0,bo,gK,none,0⟩)):=(hT.mono (fun k e=>(hlast k e).1)).trans (hS.mono (fun k e=>by rw[e];exact mem)) (fun _ e _=>e);have K9:gV w1 0 tE 12 (some ⟨g,0,none⟩) cap (q.length+1) (iX (q++[(e,s)])):=own.turns hT (fun a e h=>by injection e with e;subst e;exact(hlast _ h).2 rfl);have K8:=gV.sets ((jY l).cells ⟨none,0,bo,gK,none,0⟩) (q.length*12) w1 _ K9;have e1:iX (q++[(e,s)])=iX q++e.cells s:=by rw[mY];simp[iX]
 have e2:iX (q++[(jY l,(⟨none,0,bo,gK,none,0⟩:EvS))])=iX q++(jY l).cells ⟨none,0,bo,gK,none,0⟩:=by rw[mY];simp[iX]
 have e3:=Ii ((jY l).cells ⟨none,0,bo,gK,none,0⟩) (iX q) (e.cells s) rfl;rw[mX] at e3;rw[e1,e3,<-e2] at K8;refine⟨?_,jV⟩;have hlb:∀k,lastB (jY l) ⟨none,0,bo,gK,none,0⟩=some k->lastB e s=some k∨w.heap.size<=k:=fun k h=>by
  unfold lastB jY at h;simp only at h;split at h
  . cases h
  . rcases hO with ⟨_,_,h3⟩ | ⟨h1,_⟩
    . cases rD:bo with
      | none=>rw[rD] at h;cases h
      | some a=>rw[rD] at h;injection h with h;subst h;exact h3 a rD
    . contradiction
 have aed:∀k,k<w.heap.size->((S k∧k≠g)∧lastB e s≠some k)->((gN S w k∧k≠g)∧lastB (jY l) ⟨none,0,bo,gK,none,0⟩≠some k)∧lastB e s≠some k:=fun k hk h=>⟨⟨⟨Or.inl h.1.1,h.1.2⟩,fun e2=>by
  rcases hlb k e2 with e3 | e3
  . exact h.2 e3
  . omega⟩,h.2⟩
 refine .laid q (jY l) ⟨none,0,bo,gK,none,0⟩ g cap K8 (Or.inl mem) (fun p hp=>?_) (nE.nil _ _) (ko.nil _ _) ?_
 . exact(((ahead p hp).mono aed).turns hT (fun k h=>h.2)).turns hS (fun k h=>h.1.1.2) |>.mono (fun k _ h=>h.1)
 . refine(hO.mono (S':=fun k=>gN S w k∧k≠g) (fun k _ h=>?_)).turns hS (fun k h=>h.2);rcases h with h | h
   . exact⟨Or.inl (hlast k h).1,(hlast k h).2⟩
   . exact⟨Or.inr h,by omega⟩
end
theorem Om {P:Program}{tx e':TypeId}(hk:P.underlying tx=some (.slice e')){W:World}{bo:ak}{cap n:Nat}{b:av}(h:iH W bo cap b)(hn:b.length=n):Src P 1 tx (.slice bo n cap) n (jk b) W:=by
 subst hn;cases bo with
 | none =>
   obtain⟨rfl,rfl⟩:=h.rz;exact Src.ofNil _ hk 0
 | some a =>
   refine Src.ofSlice _ hk a _ cap _ (by rw[iq];omega) (fun j u hu=>?_) (wZ b);have hj:j<b.length:=by
    have:=(aQ.1 hu).1;rwa[iq] at this
   rw[lS b j hj] at hu;injection hu with hu;subst hu;exact h.cell j hj
theorem sV {P:Program}(w:World)(t tx ty e:TypeId)(i:TypeInfo)(ht:P.underlying t=some (.slice e))(hi:P.info? e=some i)(hz:i.zero=some (.int .u8 0))(hz1:i.size=1)(hz2:i.bytes=1)
 {base g cap n:Nat} {l l2:av} (h:Buf w base g cap l) (hn:l.length=n) (x:Value) (n2:Nat) (hs:Src P 1 tx x n2 (jk l2) w) (hlen:n+n2<=140737488355328) :
 ∃g' cap' w',(Builtin.append_ #[t,tx] ty #[.slice (some ⟨g,0,none⟩) n cap,x]).run P w=.ok (.slice (some ⟨g',0,none⟩) (n+n2) cap') w'∧Buf w' base g' cap' (l++l2)∧Turns (fun k=>k=g) w w'∧(g'=g∨g'=w.heap.size):=by
 subst hn;have hl2:l2.length=n2:=by have:=hs.newsLen;rw[iq] at this;omega
 have hhl:=h.le;rcases aU cap (l.length+n2) with hroom | hroom
 . have hold:(Builtin.firstCells i.size l.length (.slice (some ⟨g,0,none⟩) l.length cap)).run P w.drew=.ok (jk l).toArray w.drew :=
    run_firstCells_some w.drew i.size l.length ⟨g,0,none⟩ l.length cap (jk l) (by rw[iq,hz1];omega) (fun j u hj=>by rw[gI,bq];exact h.holds j u hj)
   have hr:=run_append_grow_src (P:=P) w t tx ty e i (.int .u8 0) ht hi hz (some ⟨g,0,none⟩) l.length cap (jk l) hold x n2 (jk l2) (by rw[hz1];exact hs) hroom (by omega) (by rw[hz2];exact growslice_fits (by omega) (by omega));have hge:=grownCap_ge w (l.length+n2) cap e;have hle:=grownCap_le_maxLen w (l.length+n2) cap e (by unfold maxLen;omega);generalize grownCap w (l.length+n2) cap e=cap' at hr hge hle;have hsz:((jk l++jk l2).toArray++Builtin.zeroCells (Value.int .u8 0).cells (cap'-(l.length+n2))).size=cap':=by
    have hz1:(Value.int IntKind.u8 0).cells.size=1:=rfl;simp only[Array.size_append,bM,aW,iq,size_zeroCells,hz1];omega
   refine⟨_,_,_,hr,⟨dG h.Ie (Nat.le_of_lt h.lt),by simp,by rw[aW];omega,hle,fun j u hj=>?_,fun j hj=>⟨?_,?_⟩⟩,⟨rfl,rfl,rfl,by simp,fun k hk _=>Below.heap_alloc w.drew _ k hk⟩,Or.inr rfl⟩
   . rw[show(w.drew.alloc (.cells ((jk l++jk l2).toArray++Builtin.zeroCells (Value.int .u8 0).cells (cap'-(l.length+n2))) e)).cell? ⟨w.heap.size,j,none⟩=_ from gJ w.drew _ _ j];rw[qA] at hj;rw[Array.getElem?_append_left (by rw[bM];exact(aQ.1 hj).1),dH];exact hj
   . rw[show(w.drew.alloc (.cells ((jk l++jk l2).toArray++Builtin.zeroCells (Value.int .u8 0).cells (cap'-(l.length+n2))) e)).cell? ⟨w.heap.size,j,none⟩=_ from gJ w.drew _ _ j,dF (by rw[hsz];exact hj)];rfl
   . exact(World.frozen?_alloc_mark w.drew _ e 0 0 j).trans (by simp)
 . have hr:=run_append_room_src (P:=P) w t tx ty e i ht hi g 0 l.length cap x n2 (jk l2) (by rw[hz1];exact hs) hroom (fun j hj=>by rw[hz1,Nat.mul_one,bq];rw[iq] at hj;exact(h.there _ (by omega)).1) (fun j hj=>by rw[hz1,Nat.mul_one,bq];rw[iq] at hj;exact(h.there _ (by omega)).2);rw[hz1,Nat.mul_one,bq] at hr;have hT:=ig g (jk l2) l.length w;have hin:=World.cell?_setCells_in g (jk l2) l.length w (fun j hj=>by rw[iq] at hj;exact(h.there _ (by omega)).1);have hout:=World.cell?_setCells_out g (jk l2) l.length w;refine⟨_,_,_,hr,⟨h.Ie,cB h.lt hT.size,by rw[aW];omega,h.max,fun j u hj=>?_,fun j hj=>⟨?_,by rw[World.frozen?_setCells];exact(h.there j hj).2⟩⟩,hT,Or.inl rfl⟩
   . rw[qA] at hj;rcases aU j l.length with hjl | hjl
     . rw[aY (by rw[iq];exact hjl)] at hj;rw[hout ⟨g,j,none⟩ (fun _ _=>Or.inl hjl)];exact h.holds j u hj
     . rw[bA (by rw[iq];exact hjl),iq] at hj;obtain⟨k,rfl⟩:∃k,j=l.length+k:=⟨j-l.length,by omega⟩;rw[Nat.add_sub_cancel_left] at hj;obtain⟨hk,e⟩:=aQ.1 hj;rw[hin k hk,e]
   . rcases aU j l.length with hjl | hjl
     . rw[hout ⟨g,j,none⟩ (fun _ _=>Or.inl hjl)];exact(h.there j hj).1
     . rcases aU j (l.length+(jk l2).length) with hj2 | hj2
       . obtain⟨k,rfl⟩:∃k,j=l.length+k:=⟨j-l.length,by omega⟩;rw[hin k (by omega)];rfl
       . rw[hout ⟨g,j,none⟩ (fun _ _=>Or.inr hj2)];exact(h.there j hj).1
theorem mP {P:Program}{w:World}{ops:Array Oper}{rest:List Oper}{o:Oper}{a:Act}{Q:Exit->Act->World->Prop}(hgd:o.guard=none)(s x:Operand)(t tx:TypeId)
 (ho:o.op=.call { callee:=.builtin .append,args:=#[s,x],argTypes:=#[t,tx] })
 (e:TypeId) (i:TypeInfo) (ht:P.underlying t=some (.slice e)) (hi:P.info? e=some i) (hz:i.zero=some (.int .u8 0)) (hz1:i.size=1) (hz2:i.bytes=1)
 {base g cap n:Nat} {l l2:av} (hv:a.eval s=.slice (some ⟨g,0,none⟩) n cap) (h:Buf w base g cap l) (hn:l.length=n) (xv:Value) (n2:Nat) (hx:a.eval x=xv) (hs:Src P 1 tx xv n2 (jk l2) w) (hlen:n+n2<=140737488355328)
 (hK:∀g' cap' w',Buf w' base g' cap' (l++l2)->Turns (fun k=>k=g) w w'->(g'=g∨g'=w.heap.size)->wpList P ops Q rest (a.put o.dst (.slice (some ⟨g',0,none⟩) (n+n2) cap')) w'):wpList P ops Q (o::rest) a w:=by
 refine wpList_plain hgd fun K hK'=>?_;obtain⟨g',cap',w',hrun,h1,h2,h3⟩:=sV (P:=P) w t tx o.type e i ht hi hz hz1 hz2 h hn xv n2 hs hlen;unfold Oper.wp;simp[execOp,ho,resolve,invoke,builtin,hv,hx,hrun,Result.andThen];exact hK' _ _ (hK g' cap' w' h1 h2 h3)
def vO (ao:ak)(cap:Nat)(l:av):Ob:=fun w S=>(ao=none∧cap=0∧l=[])∨∃g,ao=some ⟨g,0,none⟩∧Buf w 0 g cap l∧S g
theorem vO.law (ao:ak)(cap:Nat)(l:av):lQ (vO ao cap l) where
 turns h ht hs:=by
  rcases h with h | ⟨g,e,hB,hg⟩
  . exact Or.inl h
  . exact Or.inr ⟨g,e,hB.turns ht (hs g hg),hg⟩
 mono h hs:=by
  rcases h with h | ⟨g,e,hB,hg⟩
  . exact Or.inl h
  . exact Or.inr ⟨g,e,hB,hs g hB.lt hg⟩
theorem vO.nil (w:World)(S:Nat->Prop):vO none 0 [] w S:=Or.inl ⟨rfl,rfl,rfl⟩
theorem vO.xg {ao:ak}{cap:Nat}{l:av}{w:World}{S:Nat->Prop}(h:vO ao cap l w S):iH w ao cap l:=by
 rcases h with ⟨rfl,rfl,rfl⟩ | ⟨g,rfl,hB,_⟩
 . exact iH.nil w
 . exact hB.xg
theorem F6 {P:Program}(w:World)(t tx ty e:TypeId)(i:TypeInfo)(ht:P.underlying t=some (.slice e))(hi:P.info? e=some i)(hz:i.zero=some (.int .u8 0))(hz1:i.size=1)(hz2:i.bytes=1)
 {S:Nat->Prop} {ao:ak} {cap n:Nat} {l l2:av} (h:vO ao cap l w S) (hn:l.length=n) (x:Value) (n2:Nat) (hp:0<n2) (hs:Src P 1 tx x n2 (jk l2) w) (hlen:n+n2<=140737488355328) :
 ∃gW cap' w',(Builtin.append_ #[t,tx] ty #[.slice ao n cap,x]).run P w=.ok (.slice gW (n+n2) cap') w'∧vO gW cap' (l++l2) w' (gN S w)∧Turns S w w':=by
 rcases h with ⟨rfl,rfl,rfl⟩ | ⟨g,rfl,hB,hg⟩
 . subst hn;have hl2:l2.length=n2:=by have:=hs.newsLen;rw[iq] at this;omega
   have hold:(Builtin.firstCells i.size 0 (.slice none 0 0)).run P w.drew=.ok ([]:List Value).toArray w.drew:=by simp[Builtin.firstCells]
   have hr:=run_append_grow_src (P:=P) w t tx ty e i (.int .u8 0) ht hi hz none 0 0 [] hold x n2 (jk l2) (by rw[hz1];exact hs) (by omega) (by simp at hlen;omega) (by rw[hz2];simp at hlen;exact growslice_fits (by omega) (by omega));have hge:=grownCap_ge w (0+n2) 0 e;have hle:=grownCap_le_maxLen w (0+n2) 0 e (by unfold maxLen;simp at hlen;omega);generalize grownCap w (0+n2) 0 e=cap' at hr hge hle;have hsz:((([]:List Value)++jk l2).toArray++Builtin.zeroCells (Value.int .u8 0).cells (cap'-(0+n2))).size=cap':=by
    have hz1:(Value.int IntKind.u8 0).cells.size=1:=rfl;simp only[Array.size_append,bM,aW,cu,iq,size_zeroCells,hz1];omega
   refine⟨_,_,_,hr,Or.inr ⟨w.heap.size,rfl,⟨aA _,by simp,by rw[dz];omega,hle,fun j u hj=>?_,fun j hj=>⟨?_,?_⟩⟩,Or.inr (aM _)⟩,⟨rfl,rfl,rfl,by simp,fun k hk _=>Below.heap_alloc w.drew _ k hk⟩⟩
   . rw[show(w.drew.alloc (.cells ((([]:List Value)++jk l2).toArray++Builtin.zeroCells (Value.int .u8 0).cells (cap'-(0+n2))) e)).cell? ⟨w.heap.size,j,none⟩=_ from gJ w.drew _ _ j];rw[dz] at hj;rw[Array.getElem?_append_left (by rw[bM];exact(aQ.1 hj).1),dH];exact hj
   . rw[show(w.drew.alloc (.cells ((([]:List Value)++jk l2).toArray++Builtin.zeroCells (Value.int .u8 0).cells (cap'-(0+n2))) e)).cell? ⟨w.heap.size,j,none⟩=_ from gJ w.drew _ _ j,dF (by rw[hsz];exact hj)];rfl
   . exact(World.frozen?_alloc_mark w.drew _ e 0 0 j).trans (by simp)
 . obtain⟨g',cap',w',hr,h1,h2,h3⟩:=sV (P:=P) w t tx ty e i ht hi hz hz1 hz2 hB hn x n2 hs hlen;refine⟨_,cap',w',hr,Or.inr ⟨g',rfl,h1,?_⟩,h2.mono (fun k e=>by rw[e];exact hg)⟩;rcases h3 with h3 | h3
   . rw[h3];exact Or.inl hg
   . exact Or.inr (by omega)
theorem EK {P:Program}{w:World}{ops:Array Oper}{o:Oper}{a:Act}{K:Act->World->Prop}{Q:Exit->Act->World->Prop}{E:Prop}(hgd:o.guard=none)(s x:Operand)(t u:TypeId)(ho:o.op=.call { callee:=.builtin .append,args:=#[s,x],argTypes:=#[t,u] })
 (e:TypeId) (i:TypeInfo) (ht:P.underlying t=some (.slice e)) (hu:P.underlying u=some .string) (hi:P.info? e=some i) (hz:i.zero=some (.int .u8 0)) (hz1:i.size=1) (hz2:i.bytes=1)
 {S:Nat->Prop} {ao:ak} {cap n:Nat} {l:av} (hs:a.eval s=.slice ao n cap) (hn:l.length=n) (hB:vO ao cap l w S) (str:ay) (k:Nat) (hk:str.size=k) (hp:0<k) (hx:a.eval x=.string str) (hlen:n+k<=140737488355328)
 (h:∀gW cap' w',vO gW cap' (l++str.data.toList) w' (gN S w)->Turns S w w'->K (a.put o.dst (.slice gW (n+k) cap')) w') :
 if Region.wanted o (yielded ops a.tmps)=true then Oper.wp P o a w K Q else E:=by
 have hw:Region.wanted o (yielded ops a.tmps)=true:=by simp[Region.wanted,hgd]
 rw[if_pos hw];subst hk;obtain⟨gW,cap',w',hr,h1,h2⟩:=F6 (P:=P) w t u o.type e i ht hi hz hz1 hz2 hB hn (.string str) str.size hp (Ee hu str w) hlen;unfold Oper.wp execOp;simp only[ho,resolve,invoke,builtin,Sem.run_bind,Sem.run_pure,Result.andThen_ok,List.map_toArray,List.map_cons,List.map_nil,hs,hx,hr];exact h gW cap' w' h1 h2
section
end
def kM (w:World)(base tE:Nat)(ao:ak)(cap:Nat)(es:List iN):Prop :=
 ∃ps:List (iN×EvS),ps.map (·.1)=es∧gV w base tE 12 ao cap es.length (iX ps)∧∀p∈ps,xZ w (fun k=>base<=k∧gL ao≠some k) p.1 p.2
section
variable {w w':World} {base tE tb:Nat} {ao gW:ak} {cap cap' n:Nat} {es:List iN}
theorem kM.nil (w:World)(base tE:Nat):kM w base tE none 0 []:=⟨[],rfl,gV.nil _ _ _ _,fun p hp=>(by cases hp)⟩
theorem kM.stay (h:kM w base tE ao cap es)(hb:aj w w'):kM w' base tE ao cap es:=by
 obtain⟨ps,h1,h2,h3⟩:=h;exact⟨ps,h1,h2.stay hb,fun p hp=>(h3 p hp).turns (Turns.of_below (S:=fun _=>False) hb) (fun _ _ e=>e)⟩
theorem kM.abu (h:kM w base tE ao cap es):FU w ao cap es:=by
 obtain⟨ps,rfl,hO,hI⟩:=h;have hv:=hO.nQ;refine⟨hv.1,hv.2.1,fun j hj=>?_⟩;have hj':j<ps.length:=by simpa using hj
 have h0:0<(iX ps).length:=by rw[mX];omega
 obtain⟨b,o,rfl,hc⟩:=hv.lit h0;refine⟨b,o,ps[j].2,rfl,?_⟩;rw[aG];have hin:=hI _ (aC hj');refine⟨fun i u hi=>?_,hin.fields.is,hin.bytes.is,hin.iw.is⟩;have hl:i<12:=(aQ.1 hi).1;rw[<-rC _ j hj' i hl] at hi;have:=hc _ _ hi;rw[bL];exact this
theorem kM.more {ps:List (iN×EvS)}{e:iN}{s:EvS}(h4:∀p∈ps,xZ w (fun k=>base<=k∧gL ao≠some k) p.1 p.2)(g4:xZ w (fun k=>base<=k∧gL ao≠some k) e s)
 (hO:gV w' base tE 12 gW cap' n (iX ps++e.cells s)) (hn:n=ps.length+1) (hG:w.grownBy w' (gL ao)) (hat:gL gW=gL ao∨gL gW=some w.heap.size) :
 kM w' base tE gW cap' (ps.map (·.1)++[e]):=by
 subst hn;have hT:Turns (fun k=>gL ao=some k) w w':=Turns.iZ hG (fun k e=>e);have hne:∀k,k<w.heap.size->gL ao≠some k->gL gW≠some k:=fun k hk h e=>by
  rcases hat with g | g
  . rw[g] at e;exact h e
  . rw[g] at e;injection e with e;omega
 refine⟨ps++[(e,s)],by simp,?_,fun p hp=>?_⟩
 . rw[mY];have e1:iX [(e,s)]=e.cells s:=by simp[iX]
   rw[e1];simpa using hO
 . have hp':xZ w (fun k=>base<=k∧gL ao≠some k) p.1 p.2:=by
    rcases bB.1 hp with hp | hp
    . exact h4 p hp
    . rw[bC.1 hp];exact g4
   exact(hp'.mono (S':=fun k=>(base<=k∧gL ao≠some k)∧k<w.heap.size) (fun k hk e=>⟨e,hk⟩)).turns hT (fun k e=>e.1.2) |>.mono (fun k _ e=>⟨e.1.1,hne k e.2 e.1.2⟩)
end
theorem kM.push {W:World}{base tE:Nat}{ao:ak}{cap:Nat}{es:List iN}(h:kM W base tE ao cap es)(ob:Obj):∃ps:List (iN×EvS),gV (W.alloc ob) base tE 12 ao cap es.length (iX ps) ∧
 ∀gW cap' w' e s,xZ W (fun k=>base<=k∧gL ao≠some k) e s->gV w' base tE 12 gW cap' (es.length+1) (iX ps++e.cells s)->(W.alloc ob).grownBy w' (gL ao)->(gL gW=gL ao∨gL gW=some (W.alloc ob).heap.size)->kM w' base tE gW cap' (es++[e])∧Turns (fun k=>base<=k) (W.alloc ob) w':=by
 obtain⟨ps,hes,hO,hI⟩:=h;have hb:aj W (W.alloc ob):=(fJ _ _).alloc (aM _) _;have ht:=Turns.of_below (S:=fun _=>False) hb;refine⟨ps,hO.stay hb,fun gW cap' w' e s hE Ao hG hat=>⟨?_,Turns.iZ hG (fun k e=>?_)⟩⟩
 . rw[<-hes];exact kM.more (fun p hp=>(hI p hp).turns ht (fun _ _ e=>e)) (hE.turns ht (fun _ _ e=>e)) (by rw[<-hes] at Ao;simpa using Ao) rfl hG hat
 . cases ao with
   | none=>cases e
   | some a=>injection e with e;subst e;exact(hO.block a rfl).1
theorem kM.row {W:World}{base tE:Nat}{ao:ak}{cap:Nat}{es:List iN}(h:kM W base tE ao cap es)(k:Nat)(e:gL ao=some k):base<=k∧k<W.heap.size:=by
 obtain⟨ps,hes,hO,hI⟩:=h;cases ao with
 | none=>cases e
 | some a=>injection e with e;subst e;exact hO.block a rfl
end Go.Proofs.YtjmndjmhjleabaaGreatDoor