/- Small texts, one behind the other: MemF, MemP, MemFS, MemX, MemZ. -/
import Derived.Test.YtjmndjmhjleabaaGreatDoorPk11
import Derived.Test.YtjmndjmhjleabaaGreatDoorPk4
import Derived.Deep.AppendSrc
import Derived.Laws.IdiomCopy
import Derived.Test.YtjmndjmhjleabaaGreatDoorPk1
namespace Go.Proofs.YtjmndjmhjleabaaGreatDoor
open Go.RowKit
structure Buf (w:World)(base g cap:Nat)(l:List UInt8):Prop where
 AQ:base<=g
 lt:g<w.heap.size
 le:l.length<=cap
 max:cap<=maxLen
 holds:∀j u,(bN l)[j]? = some u->w.cell? ⟨g,j,none⟩=some u
 there:∀j,j<cap->(w.cell? ⟨g,j,none⟩).isSome=true∧w.frozen? ⟨g,j,none⟩=false
section
variable {w w':World} {base g cap:Nat} {l:List UInt8}
theorem Buf.of_block (h:Buf w base g cap l)(hb:w'.heap[g]? = w.heap[g]?):Buf w' base g cap l:=by
 have hlt:g<w'.heap.size:=by
  have:(w'.heap[g]?).isSome=true:=by rw[hb,Array.getElem?_eq_getElem h.lt];rfl
  rcases Nat.lt_or_ge g w'.heap.size with e | e
  . exact e
  . rw[Array.getElem?_eq_none e] at this;cases this
 exact⟨h.AQ,hlt,h.le,h.max,fun j u hj=>by rw[World.cell?_of_block (a:=⟨g,j,none⟩) hb];exact h.holds j u hj,fun j hj=>by rw[World.cell?_of_block (a:=⟨g,j,none⟩) hb,World.frozen?_of_block (a:=⟨g,j,none⟩) hb];exact h.there j hj⟩
theorem Buf.turns {S:Nat->Prop}(h:Buf w base g cap l)(ht:Turns S w w')(hn:¬S g):Buf w' base g cap l:=h.of_block (ht.block g h.lt hn)
theorem Buf.keep (h:Buf w base g cap l)(hb:Below w.heap.size w w'):Buf w' base g cap l:=h.of_block (hb.block g h.lt)
theorem Buf.alloc (h:Buf w base g cap l)(o:Obj):Buf (w.alloc o) base g cap l:=h.keep ((Below.refl _ _).alloc (Nat.le_refl _) o)
theorem Buf.qc (h:Buf w base g cap l):aU w (some ⟨g,0,none⟩) cap l :=
 ⟨h.le,(fun e=>by cases e),fun j hj=>⟨_,rfl,by rw[Addr.add_lit,Nat.zero_add];exact h.holds j _ (fJ l j hj)⟩⟩
end
theorem aM (g:Nat):∀(vs:List Value) (o:Nat) (w:World),Turns (fun k=>k=g) w (w.setCells g o vs)
 | [],_,w=>Turns.refl _ w
 | v::vs,o,w=>(Turns.setCell (fun k=>k=g) w ⟨g,o,none⟩ v rfl).trans (aM g vs (o+1) _) (fun _ h _=>h)
theorem Gr {P:Program}(W:World)(s:ByteArray)(src dst e:TypeId)(hz:s.size<=maxLen)(hs:P.underlying src=some .string)(hd:P.underlying dst=some (.slice e))(he:P.underlying e=some (.int .u8)):
 ∃cap w1,(convert src dst (.string s)).run P W=.ok (.slice (some ⟨W.heap.size,0,none⟩) s.size cap) w1∧Below W.heap.size W w1∧Buf w1 W.heap.size W.heap.size cap s.data.toList:=by
 refine⟨_,_,run_bytes_of_string (P:=P) W src dst e s hs hd he,((aA _ W).alloc (Nat.le_refl _) _),?_⟩;have hge:=grownCap_ge W s.size 0 e;have hle:=grownCap_le_maxLen W s.size 0 e hz;generalize grownCap W s.size 0 e=cap at hge hle ⊢;have hsz:(bytesRow s cap).size=cap:=by
  unfold bytesRow;have:s.data.size=s.size:=rfl;simp only[Array.size_append,Array.size_map,Array.size_replicate,this];omega
 refine⟨Nat.le_refl _,by simp,by rw[Ch.bC];exact hge,hle,fun j u hj=>?_,fun j hj=>⟨?_,?_⟩⟩
 . have hjl:j<s.data.toList.length:=by
    have:=(List.getElem?_eq_some_iff.1 hj).1;rwa[aG] at this
   rw[fJ _ j hjl] at hj;injection hj with hj;subst hj;have hjs:j<s.size:=by rw[Ch.bC] at hjl;exact hjl
   have:=World.cell?_alloc_mark W.drew (bytesRow s cap) e ((bytesRow s cap).size,(bytesRow s cap).size+1) j;refine this.trans ?_;rw[bytesRow_at s cap j hjs];simp
 . have:=World.cell?_alloc_mark W.drew (bytesRow s cap) e ((bytesRow s cap).size,(bytesRow s cap).size+1) j;rw[show(W.drew.alloc (.cells (bytesRow s cap) e ((bytesRow s cap).size,(bytesRow s cap).size+1))).cell? ⟨W.heap.size,j,none⟩=(bytesRow s cap)[j]? from this,Array.getElem?_eq_getElem (by rw[hsz];exact hj)];rfl
 . refine(World.frozen?_alloc_mark W.drew (bytesRow s cap) e (bytesRow s cap).size ((bytesRow s cap).size+1) j).trans ?_;rw[decide_eq_false (by rw[hsz];omega)];rfl
theorem xX {P:Program}{tx:TypeId}(hk:P.underlying tx=some .string)(s:ByteArray)(w:World):Src P 1 tx (.string s) s.size (bN s.data.toList) w:=Src.ofString w hk s
def JD:List Value->Nat->List Value->List Value
 | xs,_,[]=>xs
 | xs,o,v::r=>JD (xs.set o v) (o+1) r
theorem AU:∀(vs a b:List Value),b.length=vs.length->JD (a++b) a.length vs=a++vs
 | [], a, b, h => by
   have hb:b=[]:=List.eq_nil_of_length_eq_zero (by simpa using h);rw[hb];rfl
 | v::r,a,[],h=>by simp at h
 | v :: r, a, u :: b, h => by
   show JD ((a++u::b).set a.length v) (a.length+1) r=a++v::r;have e:(a++u::b).set a.length v=(a++[v])++b:=by
    rw[List.set_append_right _ _ (Nat.le_refl _),Nat.sub_self];simp
   rw[e];have:=AU r (a++[v]) b (by simpa using h);rw[List.length_append] at this;rw[show a.length+1=a.length+[v].length from rfl,this];simp
theorem aC.sets {base t k cap n g:Nat}:∀(vs:List Value) (o:Nat) (w:World) (xs:List Value),aC w base t k (some ⟨g,0,none⟩) cap n xs->aC (w.setCells g o vs) base t k (some ⟨g,0,none⟩) cap n (JD xs o vs)
 | [],_,_,_,h=>h
 | v::r,o,_,_,h=>aC.sets r (o+1) _ _ (World.ownsRow.stored h o v).1
section
variable {w w1:World} {S:Nat->Prop} {tE tb:Nat} {cap:Nat}
theorem dh.replace {q:List (aZ×EvS)}{e:aZ}{s:EvS}{g:Nat}{l:List UInt8}{bo:Option Addr}{aj:Nat}
 (own:aC w 0 tE 12 (some ⟨g,0,none⟩) cap (q.length+1) (bJ (q++[(e,s)]))) (mem:S g)
 (ahead:∀p∈q,vS w (fun k=>(S k∧k≠g)∧lastB e s≠some k) p.1 p.2)
 (bytes:aF w (fun k=>S k∧k≠g) tb s.bo s.aj e.bytes)
 (hO:aF w1 (fun k=>lastB e s=some k∨w.heap.size<=k) tb bo aj l) (hT:Turns (fun k=>lastB e s=some k) w w1) :
 dh (w1.setCells g (q.length*12) ((dB l).cells ⟨none,0,bo,aj,none,0⟩)) (av S w) tE tb (some ⟨g,0,none⟩) cap (q.map (·.1)++[dB l])∧Turns S w (w1.setCells g (q.length*12) ((dB l).cells ⟨none,0,bo,aj,none,0⟩)):=by
 have hlast:∀k,lastB e s=some k->S k∧k≠g:=fun k h=>by
  unfold lastB at h;split at h
  . cases h
  . rcases bytes with ⟨_,_,h3⟩ | ⟨h1,_⟩
    . cases kH:s.bo with
      | none=>rw[kH] at h;cases h
      | some a=>rw[kH] at h;injection h with h;subst h;exact h3 a kH
    . contradiction
 have hgl:g<w.heap.size:=(own.block _ rfl).2;have hS:Turns (fun k=>k=g) w1 (w1.setCells g (q.length*12) ((dB l).cells ⟨none,0,bo,aj,none,0⟩)):=aM g _ _ w1;have dx:Turns S w (w1.setCells g (q.length*12) ((dB l).cells ⟨none,0,bo,aj,none,0⟩)):=(hT.mono (fun k e=>(hlast k e).1)).trans (hS.mono (fun k e=>by rw[e];exact mem)) (fun _ e _=>e);have Ef:aC w1 0 tE 12 (some ⟨g,0,none⟩) cap (q.length+1) (bJ (q++[(e,s)])):=own.turns hT (fun a e h=>by injection e with e;subst e;exact(hlast _ h).2 rfl);have Ee:=aC.sets ((dB l).cells ⟨none,0,bo,aj,none,0⟩) (q.length*12) w1 _ Ef;have e1:bJ (q++[(e,s)])=bJ q++e.cells s:=by rw[iL];simp[bJ]
 have e2:bJ (q++[(dB l,(⟨none,0,bo,aj,none,0⟩:EvS))])=bJ q++(dB l).cells ⟨none,0,bo,aj,none,0⟩:=by rw[iL];simp[bJ]
 have e3:=AU ((dB l).cells ⟨none,0,bo,aj,none,0⟩) (bJ q) (e.cells s) rfl;rw[iK] at e3;rw[e1,e3,<-e2] at Ee;refine⟨?_,dx⟩;have hlb:∀k,lastB (dB l) ⟨none,0,bo,aj,none,0⟩=some k->lastB e s=some k∨w.heap.size<=k:=fun k h=>by
  unfold lastB dB at h;simp only at h;split at h
  . cases h
  . rcases hO with ⟨_,_,h3⟩ | ⟨h1,_⟩
    . cases kH:bo with
      | none=>rw[kH] at h;cases h
      | some a=>rw[kH] at h;injection h with h;subst h;exact h3 a kH
    . contradiction
 have Xh:∀k,k<w.heap.size->((S k∧k≠g)∧lastB e s≠some k)->((av S w k∧k≠g)∧lastB (dB l) ⟨none,0,bo,aj,none,0⟩≠some k)∧lastB e s≠some k:=fun k hk h=>⟨⟨⟨Or.inl h.1.1,h.1.2⟩,fun e2=>by
  rcases hlb k e2 with e3 | e3
  . exact h.2 e3
  . omega⟩,h.2⟩
 refine .laid q (dB l) ⟨none,0,bo,aj,none,0⟩ g cap Ee (Or.inl mem) (fun p hp=>?_) (iJ.nil _ _) (eX.nil _ _) ?_
 . exact(((ahead p hp).mono Xh).turns hT (fun k h=>h.2)).turns hS (fun k h=>h.1.1.2) |>.mono (fun k _ h=>h.1)
 . refine(hO.mono (S':=fun k=>av S w k∧k≠g) (fun k _ h=>?_)).turns hS (fun k h=>h.2);rcases h with h | h
   . exact⟨Or.inl (hlast k h).1,(hlast k h).2⟩
   . exact⟨Or.inr h,by omega⟩
end
theorem GX {P:Program}{tx e':TypeId}(hk:P.underlying tx=some (.slice e')){W:World}{bo:Option Addr}{cap n:Nat}{b:List UInt8}(h:aU W bo cap b)(hn:b.length=n):Src P 1 tx (.slice bo n cap) n (bN b) W:=by
 subst hn;cases bo with
 | none =>
   obtain⟨rfl,rfl⟩:=h.kE;exact Src.ofNil _ hk 0
 | some a =>
   refine Src.ofSlice _ hk a _ cap _ (by rw[aG];omega) (fun j u hu=>?_) (oZ b);have hj:j<b.length:=by
    have:=(List.getElem?_eq_some_iff.1 hu).1;rwa[aG] at this
   rw[fJ b j hj] at hu;injection hu with hu;subst hu;exact h.cell j hj
theorem lM {P:Program}(w:World)(t tx ty e:TypeId)(i:TypeInfo)(ht:P.underlying t=some (.slice e))(hi:P.info? e=some i)(hz:i.zero=some (.int .u8 0))(hz1:i.size=1)(hz2:i.bytes=1)
 {base g cap n:Nat} {l l2:List UInt8} (h:Buf w base g cap l) (hn:l.length=n) (x:Value) (n2:Nat) (hs:Src P 1 tx x n2 (bN l2) w) (hlen:n+n2<=140737488355328) :
 ∃g' cap' w',(Builtin.append_ #[t,tx] ty #[.slice (some ⟨g,0,none⟩) n cap,x]).run P w=.ok (.slice (some ⟨g',0,none⟩) (n+n2) cap') w'∧Buf w' base g' cap' (l++l2)∧Turns (fun k=>k=g) w w'∧(g'=g∨g'=w.heap.size):=by
 subst hn;have hl2:l2.length=n2:=by have:=hs.newsLen;rw[aG] at this;omega
 have ZG:=h.le;rcases Nat.lt_or_ge cap (l.length+n2) with hroom | hroom
 . have hold:(Builtin.firstCells i.size l.length (.slice (some ⟨g,0,none⟩) l.length cap)).run P w.drew=.ok (bN l).toArray w.drew :=
    run_firstCells_some w.drew i.size l.length ⟨g,0,none⟩ l.length cap (bN l) (by rw[aG,hz1];omega) (fun j u hj=>by rw[Addr.add_lit,Nat.zero_add];exact h.holds j u hj)
   have hr:=run_append_grow_src (P:=P) w t tx ty e i (.int .u8 0) ht hi hz (some ⟨g,0,none⟩) l.length cap (bN l) hold x n2 (bN l2) (by rw[hz1];exact hs) hroom (by omega) (by rw[hz2];exact growslice_fits (by omega) (by omega));have hge:=grownCap_ge w (l.length+n2) cap e;have hle:=grownCap_le_maxLen w (l.length+n2) cap e (by unfold maxLen;omega);generalize grownCap w (l.length+n2) cap e=cap' at hr hge hle;have hsz:((bN l++bN l2).toArray++Builtin.zeroCells (Value.int .u8 0).cells (cap'-(l.length+n2))).size=cap':=by
    have hz1:(Value.int IntKind.u8 0).cells.size=1:=rfl;simp only[Array.size_append,List.size_toArray,List.length_append,aG,size_zeroCells,hz1];omega
   refine⟨_,_,_,hr,⟨Nat.le_trans h.AQ (Nat.le_of_lt h.lt),by simp,by rw[List.length_append];omega,hle,fun j u hj=>?_,fun j hj=>⟨?_,?_⟩⟩,⟨rfl,rfl,rfl,by simp,fun k hk _=>Below.heap_alloc w.drew _ k hk⟩,Or.inr rfl⟩
   . rw[show(w.drew.alloc (.cells ((bN l++bN l2).toArray++Builtin.zeroCells (Value.int .u8 0).cells (cap'-(l.length+n2))) e)).cell? ⟨w.heap.size,j,none⟩=_ from World.cell?_alloc_new w.drew _ _ j];rw[jQ] at hj;rw[Array.getElem?_append_left (by rw[List.size_toArray];exact(List.getElem?_eq_some_iff.1 hj).1),List.getElem?_toArray];exact hj
   . rw[show(w.drew.alloc (.cells ((bN l++bN l2).toArray++Builtin.zeroCells (Value.int .u8 0).cells (cap'-(l.length+n2))) e)).cell? ⟨w.heap.size,j,none⟩=_ from World.cell?_alloc_new w.drew _ _ j,Array.getElem?_eq_getElem (by rw[hsz];exact hj)];rfl
   . exact(World.frozen?_alloc_mark w.drew _ e 0 0 j).trans (by simp)
 . have hr:=run_append_room_src (P:=P) w t tx ty e i ht hi g 0 l.length cap x n2 (bN l2) (by rw[hz1];exact hs) hroom (fun j hj=>by rw[hz1,Nat.mul_one,Nat.zero_add];rw[aG] at hj;exact(h.there _ (by omega)).1) (fun j hj=>by rw[hz1,Nat.mul_one,Nat.zero_add];rw[aG] at hj;exact(h.there _ (by omega)).2);rw[hz1,Nat.mul_one,Nat.zero_add] at hr;have hT:=aM g (bN l2) l.length w;have hin:=World.cell?_setCells_in g (bN l2) l.length w (fun j hj=>by rw[aG] at hj;exact(h.there _ (by omega)).1);have hout:=World.cell?_setCells_out g (bN l2) l.length w;refine⟨_,_,_,hr,⟨h.AQ,Nat.lt_of_lt_of_le h.lt hT.size,by rw[List.length_append];omega,h.max,fun j u hj=>?_,fun j hj=>⟨?_,by rw[World.frozen?_setCells];exact(h.there j hj).2⟩⟩,hT,Or.inl rfl⟩
   . rw[jQ] at hj;rcases Nat.lt_or_ge j l.length with hjl | hjl
     . rw[List.getElem?_append_left (by rw[aG];exact hjl)] at hj;rw[hout ⟨g,j,none⟩ (fun _ _=>Or.inl hjl)];exact h.holds j u hj
     . rw[List.getElem?_append_right (by rw[aG];exact hjl),aG] at hj;obtain⟨k,rfl⟩:∃k,j=l.length+k:=⟨j-l.length,by omega⟩;rw[Nat.add_sub_cancel_left] at hj;obtain⟨hk,e⟩:=List.getElem?_eq_some_iff.1 hj;rw[hin k hk,e]
   . rcases Nat.lt_or_ge j l.length with hjl | hjl
     . rw[hout ⟨g,j,none⟩ (fun _ _=>Or.inl hjl)];exact(h.there j hj).1
     . rcases Nat.lt_or_ge j (l.length+(bN l2).length) with hj2 | hj2
       . obtain⟨k,rfl⟩:∃k,j=l.length+k:=⟨j-l.length,by omega⟩;rw[hin k (by omega)];rfl
       . rw[hout ⟨g,j,none⟩ (fun _ _=>Or.inr hj2)];exact(h.there j hj).1
theorem gG {P:Program}{w:World}{ops:Array Oper}{rest:List Oper}{o:Oper}{a:Act}{Q:Exit->Act->World->Prop}(hgd:o.guard=none)(s x:Operand)(t tx:TypeId)
 (ho:o.op=.call { callee:=.builtin .append,args:=#[s,x],argTypes:=#[t,tx] })
 (e:TypeId) (i:TypeInfo) (ht:P.underlying t=some (.slice e)) (hi:P.info? e=some i) (hz:i.zero=some (.int .u8 0)) (hz1:i.size=1) (hz2:i.bytes=1)
 {base g cap n:Nat} {l l2:List UInt8} (hv:a.eval s=.slice (some ⟨g,0,none⟩) n cap) (h:Buf w base g cap l) (hn:l.length=n) (xv:Value) (n2:Nat) (hx:a.eval x=xv) (hs:Src P 1 tx xv n2 (bN l2) w) (hlen:n+n2<=140737488355328)
 (hK:∀g' cap' w',Buf w' base g' cap' (l++l2)->Turns (fun k=>k=g) w w'->(g'=g∨g'=w.heap.size)->wpList P ops Q rest (a.put o.dst (.slice (some ⟨g',0,none⟩) (n+n2) cap')) w'):wpList P ops Q (o::rest) a w:=by
 refine wpList_plain hgd fun K hK'=>?_;obtain⟨g',cap',w',hrun,h1,h2,h3⟩:=lM (P:=P) w t tx o.type e i ht hi hz hz1 hz2 h hn xv n2 hs hlen;unfold Oper.wp;simp[execOp,ho,resolve,invoke,builtin,hv,hx,hrun,Result.andThen];exact hK' _ _ (hK g' cap' w' h1 h2 h3)
def nS (ao:Option Addr)(cap:Nat)(l:List UInt8):Ob:=fun w S=>(ao=none∧cap=0∧l=[])∨∃g,ao=some ⟨g,0,none⟩∧Buf w 0 g cap l∧S g
theorem nS.law (ao:Option Addr)(cap:Nat)(l:List UInt8):fI (nS ao cap l) where
 turns h ht hs:=by
  rcases h with h | ⟨g,e,hB,hg⟩
  . exact Or.inl h
  . exact Or.inr ⟨g,e,hB.turns ht (hs g hg),hg⟩
 mono h hs:=by
  rcases h with h | ⟨g,e,hB,hg⟩
  . exact Or.inl h
  . exact Or.inr ⟨g,e,hB,hs g hB.lt hg⟩
theorem nS.nil (w:World)(S:Nat->Prop):nS none 0 [] w S:=Or.inl ⟨rfl,rfl,rfl⟩
theorem nS.qc {ao:Option Addr}{cap:Nat}{l:List UInt8}{w:World}{S:Nat->Prop}(h:nS ao cap l w S):aU w ao cap l:=by
 rcases h with ⟨rfl,rfl,rfl⟩ | ⟨g,rfl,hB,_⟩
 . exact aU.nil w
 . exact hB.qc
theorem zR {P:Program}(w:World)(t tx ty e:TypeId)(i:TypeInfo)(ht:P.underlying t=some (.slice e))(hi:P.info? e=some i)(hz:i.zero=some (.int .u8 0))(hz1:i.size=1)(hz2:i.bytes=1)
 {S:Nat->Prop} {ao:Option Addr} {cap n:Nat} {l l2:List UInt8} (h:nS ao cap l w S) (hn:l.length=n) (x:Value) (n2:Nat) (hp:0<n2) (hs:Src P 1 tx x n2 (bN l2) w) (hlen:n+n2<=140737488355328) :
 ∃aD cap' w',(Builtin.append_ #[t,tx] ty #[.slice ao n cap,x]).run P w=.ok (.slice aD (n+n2) cap') w'∧nS aD cap' (l++l2) w' (av S w)∧Turns S w w':=by
 rcases h with ⟨rfl,rfl,rfl⟩ | ⟨g,rfl,hB,hg⟩
 . subst hn;have hl2:l2.length=n2:=by have:=hs.newsLen;rw[aG] at this;omega
   have hold:(Builtin.firstCells i.size 0 (.slice none 0 0)).run P w.drew=.ok ([]:List Value).toArray w.drew:=by simp[Builtin.firstCells]
   have hr:=run_append_grow_src (P:=P) w t tx ty e i (.int .u8 0) ht hi hz none 0 0 [] hold x n2 (bN l2) (by rw[hz1];exact hs) (by omega) (by simp at hlen;omega) (by rw[hz2];simp at hlen;exact growslice_fits (by omega) (by omega));have hge:=grownCap_ge w (0+n2) 0 e;have hle:=grownCap_le_maxLen w (0+n2) 0 e (by unfold maxLen;simp at hlen;omega);generalize grownCap w (0+n2) 0 e=cap' at hr hge hle;have hsz:((([]:List Value)++bN l2).toArray++Builtin.zeroCells (Value.int .u8 0).cells (cap'-(0+n2))).size=cap':=by
    have hz1:(Value.int IntKind.u8 0).cells.size=1:=rfl;simp only[Array.size_append,List.size_toArray,List.length_append,List.length_nil,aG,size_zeroCells,hz1];omega
   refine⟨_,_,_,hr,Or.inr ⟨w.heap.size,rfl,⟨Nat.zero_le _,by simp,by rw[List.nil_append];omega,hle,fun j u hj=>?_,fun j hj=>⟨?_,?_⟩⟩,Or.inr (Nat.le_refl _)⟩,⟨rfl,rfl,rfl,by simp,fun k hk _=>Below.heap_alloc w.drew _ k hk⟩⟩
   . rw[show(w.drew.alloc (.cells ((([]:List Value)++bN l2).toArray++Builtin.zeroCells (Value.int .u8 0).cells (cap'-(0+n2))) e)).cell? ⟨w.heap.size,j,none⟩=_ from World.cell?_alloc_new w.drew _ _ j];rw[List.nil_append] at hj;rw[Array.getElem?_append_left (by rw[List.size_toArray];exact(List.getElem?_eq_some_iff.1 hj).1),List.getElem?_toArray];exact hj
   . rw[show(w.drew.alloc (.cells ((([]:List Value)++bN l2).toArray++Builtin.zeroCells (Value.int .u8 0).cells (cap'-(0+n2))) e)).cell? ⟨w.heap.size,j,none⟩=_ from World.cell?_alloc_new w.drew _ _ j,Array.getElem?_eq_getElem (by rw[hsz];exact hj)];rfl
   . exact(World.frozen?_alloc_mark w.drew _ e 0 0 j).trans (by simp)
 . obtain⟨g',cap',w',hr,h1,h2,h3⟩:=lM (P:=P) w t tx ty e i ht hi hz hz1 hz2 hB hn x n2 hs hlen;refine⟨_,cap',w',hr,Or.inr ⟨g',rfl,h1,?_⟩,h2.mono (fun k e=>by rw[e];exact hg)⟩;rcases h3 with h3 | h3
   . rw[h3];exact Or.inl hg
   . exact Or.inr (by omega)
theorem yQ {P:Program}{w:World}{ops:Array Oper}{o:Oper}{a:Act}{K:Act->World->Prop}{Q:Exit->Act->World->Prop}{E:Prop}(hgd:o.guard=none)(s x:Operand)(t u:TypeId)(ho:o.op=.call { callee:=.builtin .append,args:=#[s,x],argTypes:=#[t,u] })
 (e:TypeId) (i:TypeInfo) (ht:P.underlying t=some (.slice e)) (hu:P.underlying u=some .string) (hi:P.info? e=some i) (hz:i.zero=some (.int .u8 0)) (hz1:i.size=1) (hz2:i.bytes=1)
 {S:Nat->Prop} {ao:Option Addr} {cap n:Nat} {l:List UInt8} (hs:a.eval s=.slice ao n cap) (hn:l.length=n) (hB:nS ao cap l w S) (str:ByteArray) (k:Nat) (hk:str.size=k) (hp:0<k) (hx:a.eval x=.string str) (hlen:n+k<=140737488355328)
 (h:∀aD cap' w',nS aD cap' (l++str.data.toList) w' (av S w)->Turns S w w'->K (a.put o.dst (.slice aD (n+k) cap')) w') :
 if Region.wanted o (yielded ops a.tmps)=true then Oper.wp P o a w K Q else E:=by
 have hw:Region.wanted o (yielded ops a.tmps)=true:=by simp[Region.wanted,hgd]
 rw[if_pos hw];subst hk;obtain⟨aD,cap',w',hr,h1,h2⟩:=zR (P:=P) w t u o.type e i ht hi hz hz1 hz2 hB hn (.string str) str.size hp (xX hu str w) hlen;unfold Oper.wp execOp;simp only[ho,resolve,invoke,builtin,Sem.run_bind,Sem.run_pure,Result.andThen_ok,List.map_toArray,List.map_cons,List.map_nil,hs,hx,hr];exact h aD cap' w' h1 h2
end Go.Proofs.YtjmndjmhjleabaaGreatDoor