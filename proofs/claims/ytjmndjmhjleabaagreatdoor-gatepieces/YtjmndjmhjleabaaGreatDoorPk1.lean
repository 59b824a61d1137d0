/- Small texts, one behind the other: Mem, MemV, MemE, JnA, MemQ, MemL. -/
import Derived.WalkKit
import Derived.Laws.AppendOwnNone
import Derived.Maps.AppendAt
import Derived.Laws.IdiomStrings
import Derived.DataElems
import Derived.Deep.Draws
namespace Go.Proofs.YtjmndjmhjleabaaGreatDoor
open Go.RowKit
theorem aA (B:Nat)(w:World):Below B w w.drew:=⟨rfl,rfl,rfl,Nat.le_refl _,fun _ _=>rfl⟩
def bN (l:List UInt8):List Value:=l.map fun b=>.int .u8 (b.toNat:Int)
theorem aG (l:List UInt8):(bN l).length=l.length:=by simp[bN]
theorem jQ (a b:List UInt8):bN (a++b)=bN a++bN b:=by simp[bN]
theorem oZ (l:List UInt8):∀u∈bN l,u.oneCell'=true:=by
 intro u hu;obtain⟨b,_,rfl⟩:=List.mem_map.1 hu;rfl
theorem fJ (l:List UInt8)(j:Nat)(h:j<l.length):(bN l)[j]? = some (.int .u8 (l[j].toNat:Int)):=by
 simp[bN,h]
def aU (w:World)(ao:Option Addr)(cap:Nat)(l:List UInt8):Prop :=
 l.length<=cap∧(ao=none->cap=0)∧∀j (hj:j<l.length),∃a,ao=some a∧w.cell? (a.add j)=some (.int .u8 (l[j].toNat:Int))
theorem aU.cell {w:World}{a:Addr}{cap:Nat}{l:List UInt8}(h:aU w (some a) cap l)(j:Nat)(hj:j<l.length):w.cell? (a.add j)=some (.int .u8 (l[j].toNat:Int)):=by
 obtain⟨a',e,hc⟩:=h.2.2 j hj;injection e with e;subst e;exact hc
theorem aU.some {w:World}{ao:Option Addr}{cap:Nat}{l:List UInt8}(h:aU w ao cap l)(hl:0<l.length):∃a,ao=some a:=by
 obtain⟨a,e,_⟩:=h.2.2 0 hl;exact⟨a,e⟩
theorem aU.nil (w:World):aU w none 0 []:=⟨Nat.le_refl _,fun _=>rfl,fun j hj=>by simp at hj⟩
theorem aU.kE {w:World}{cap:Nat}{l:List UInt8}(h:aU w none cap l):l=[]∧cap=0:=by
 have hc:=h.2.1 rfl;have h1:=h.1;exact⟨List.eq_nil_of_length_eq_zero (by omega),hc⟩
theorem aU.lit {w:World}{ao:Option Addr}{cap:Nat}{l:List UInt8}(h:aU w ao cap l)(hl:0<l.length):∃b o,ao=Option.some ⟨b,o,Option.none⟩∧∀j (hj:j<l.length),w.cell? ⟨b,o+j,Option.none⟩=Option.some (.int .u8 (l[j].toNat:Int)):=by
 obtain⟨⟨b,o,sp⟩,rfl,h0⟩:=h.2.2 0 hl;have hs:sp=Option.none:=by simpa[Addr.add] using World.cell?_spot h0
 subst hs;refine⟨b,o,rfl,fun j hj=>?_⟩;have:=h.cell j hj;rwa[Addr.add_lit] at this
theorem aU.move {w w':World}{ao:Option Addr}{cap:Nat}{l:List UInt8}(h:aU w ao cap l)(hc:∀a,ao=Option.some a->∀v j,w.cell? (a.add j)=Option.some v->w'.cell? (a.add j)=Option.some v):aU w' ao cap l:=by
 refine⟨h.1,h.2.1,fun j hj=>?_⟩;obtain⟨a,e,hv⟩:=h.2.2 j hj;exact⟨a,e,hc a e _ j hv⟩
theorem add_block (a:Addr)(j:Nat):(a.add j).block=a.block:=by unfold Addr.add;split <;> rfl
theorem aU.grown {w w':World}{ao:Option Addr}{cap:Nat}{l:List UInt8}{row:Option Nat}(h:aU w ao cap l)(hg:w.grownBy w' row)(ha:∀a,ao=Option.some a->Option.some a.block≠row):aU w' ao cap l :=
 h.move fun a e v j hv=>hg.cell hv (by rw[add_block];exact ha a e)
theorem aU.stay {w w':World}{ao:Option Addr}{cap:Nat}{l:List UInt8}(h:aU w ao cap l)(hb:Below w.heap.size w w'):aU w' ao cap l :=
 h.move fun a _ v j hv=>by rw[hb.cell (World.block_lt_of_cell? w _ hv)];exact hv
theorem aU.cut {w:World}{ao aD:Option Addr}{cap:Nat}{l:List UInt8}(h:aU w ao cap l)(lo hi:Nat)(h1:lo<=hi)(h2:hi<=l.length)
 (e2:cap≠lo->aD=ao.map (·.add lo)):aU w aD (cap-lo) ((l.drop lo).take (hi-lo)):=by
 have hc:=h.1;have hlen:((l.drop lo).take (hi-lo)).length=hi-lo:=by rw[List.length_take,List.length_drop];omega
 refine⟨by omega,fun hn=>?_,fun j hj=>?_⟩
 . by_cases e:cap=lo
   . omega
   . have:=e2 e;rw[hn] at this;have ho:ao=none:=Option.map_eq_none_iff.1 this.symm;have:=h.2.1 ho;omega
 . rw[hlen] at hj;obtain⟨a,e,hv⟩:=h.2.2 (lo+j) (by omega);have hne:cap≠lo:=by omega
   refine⟨a.add lo,by rw[e2 hne,e];rfl,?_⟩;rw[Addr.add_add,hv];simp
theorem aU.drewN {w:World}{ao:Option Addr}{cap:Nat}{l:List UInt8}(h:aU w ao cap l)(n:Nat):aU (w.drewN n) ao cap l :=
 h.move (fun a _ v j hv=>by rw[World.cell?_drewN];exact hv)
theorem aU.first {w:World}{ao:Option Addr}{cap:Nat}{l:List UInt8}(h:aU w ao cap l)(n:Nat)(hn:n<=l.length):aU w ao cap (l.take n):=by
 have:=h.cut (aD:=ao) 0 n (Nat.zero_le _) hn (fun _=>by cases ao <;> simp[Addr.add]);simpa using this
theorem aU.str {P:Program}{w:World}{ao:Option Addr}{cap:Nat}{l:List UInt8}(h:aU w ao cap l)(src dst e:TypeId)(hs:P.underlying src=Option.some (.slice e))(he:P.underlying e=Option.some (.int .u8))(hd:P.underlying dst=Option.some .string):
 (convert src dst (.slice ao l.length cap)).run P w=.ok (.string ⟨l.toArray⟩) w:=by
 cases ao with
 | none =>
   obtain⟨rfl,rfl⟩:=h.kE;rw[run_convert_bytes_string w src dst e none _ _ hs he hd];rfl
 | some a=>exact run_convert_bytes_back w src dst e a cap l hs he hd (fun j hj=>h.cell j hj)
def aT (w:World)(base t:Nat)(ao:Option Addr)(cap:Nat)(l:List UInt8):Prop:=w.ownsRow base t 1 (.slice ao l.length cap) l.length (bN l)
theorem aT.nil (w:World)(base t:Nat):aT w base t none 0 []:=World.ownsRow_nil _ _ _ _
theorem aT.of {w:World}{base t:Nat}{v:Value}{l:List UInt8}{n:Nat}(hn:n=l.length)(h:w.ownsRow base t 1 v n (bN l)):∃ao cap,v=.slice ao l.length cap∧aT w base t ao cap l:=by
 subst hn;rcases h.2 with ⟨rfl,h0⟩ | ⟨g,cap,cur,rfl,_⟩
 . have e:l=[]:=List.eq_nil_of_length_eq_zero h0;subst e;exact⟨none,0,rfl,h⟩
 . exact⟨_,_,rfl,h⟩
theorem aT.qc {w:World}{base t:Nat}{ao:Option Addr}{cap:Nat}{l:List UInt8}(h:aT w base t ao cap l):aU w ao cap l:=by
 rcases h.2 with ⟨e,h0⟩ | ⟨g,cap',cur,e,hg,hh,hn,hm,hs,ht⟩
 . injection e with e1 e2 e3;subst e1;subst e3;rw[List.eq_nil_of_length_eq_zero h0];exact aU.nil w
 . injection e with e1 e2 e3;subst e1;subst e3;refine⟨hn,fun e=>by simp at e,fun j hj=>⟨_,rfl,?_⟩⟩;exact World.ownsRow.cells h (g:=g) rfl j _ (fJ l j hj)
theorem aT.block {w:World}{base t:Nat}{ao:Option Addr}{cap:Nat}{l:List UInt8}(h:aT w base t ao cap l)(a:Addr)(e:ao=some a):base<=a.block∧a.block<w.heap.size:=by
 subst e;exact World.ownsRow.lt h a.block rfl
theorem aT.head {w:World}{base t:Nat}{ao:Option Addr}{cap:Nat}{l:List UInt8}(h:aT w base t ao cap l)(hl:0<l.length):∃g,ao=some ⟨g,0,none⟩∧base<=g∧∀j (hj:j<l.length),w.cell? ⟨g,j,none⟩=some (.int .u8 (l[j].toNat:Int)):=by
 rcases h.2 with ⟨e,h0⟩ | ⟨g,cap',cur,e,hg,hh,hn,hm,hs,ht⟩
 . omega
 . injection e with e1 e2 e3;subst e1;subst e3;refine⟨g,rfl,hg,fun j hj=>?_⟩;have:=World.ownsRow.cells h (g:=g) rfl j _ (fJ l j hj);rwa[Addr.add_lit,Nat.zero_add] at this
theorem aT.kept {w w':World}{base t:Nat}{ao:Option Addr}{cap:Nat}{l:List UInt8}{row:Option Nat}(h:aT w base t ao cap l)(hg:w.grownBy w' row)(ha:∀a,ao=some a->some a.block≠row):aT w' base t ao cap l:=by
 refine World.ownsRow.kept h hg ?_;cases ao with
 | none=>exact Or.inl rfl
 | some a=>exact Or.inr (ha a rfl)
theorem aT.below {w w':World}{base t:Nat}{ao:Option Addr}{cap:Nat}{l:List UInt8}{B:Nat}(h:aT w base t ao cap l)(hb:Below B w w')(ha:∀a,ao=some a->a.block<B):aT w' base t ao cap l:=by
 refine⟨h.1,?_⟩;rcases h.2 with hn | ⟨g,cap',cur,e,hg,hh,r⟩
 . exact Or.inl hn
 . refine Or.inr ⟨g,cap',cur,e,hg,?_,r⟩;injection e with e1 e2 e3;rw[hb.block g (ha _ e1)];exact hh
theorem aT.mono {w:World}{base base' t:Nat}{ao:Option Addr}{cap:Nat}{l:List UInt8}(h:aT w base t ao cap l)(hb:base'<=base):aT w base' t ao cap l:=by
 refine⟨h.1,?_⟩;rcases h.2 with hn | ⟨g,cap',cur,e,hg,r⟩
 . exact Or.inl hn
 . exact Or.inr ⟨g,cap',cur,e,by omega,r⟩
theorem aT.alloc {w:World}{base t:Nat}{ao:Option Addr}{cap:Nat}{l:List UInt8}(h:aT w base t ao cap l)(o:Obj):aT (w.alloc o) base t ao cap l:=World.ownsRow.alloc h o
theorem aU.alloc {w:World}{ao:Option Addr}{cap:Nat}{l:List UInt8}(h:aU w ao cap l)(o:Obj):aU (w.alloc o) ao cap l:=h.grown (World.grownBy_alloc w o none) (fun a _=>by simp)
theorem aU.one (w:World)(c:UInt8)(t:Nat)(fr:Nat×Nat):aU (w.alloc (.cells #[.int .u8 (c.toNat:Int)] t fr)) (Option.some ⟨w.heap.size,0,Option.none⟩) 1 [c]:=by
 refine⟨Nat.le_refl _,fun e=>by simp at e,fun j hj=>⟨_,rfl,?_⟩⟩;have e:j=0:=by simp at hj;exact hj
 subst e;rw[Addr.add_lit,World.cell?_alloc_mark];rfl
theorem aU.ofRow (w:World)(s:ByteArray)(cap t:Nat)(fr:Nat×Nat)(hcap:s.size<=cap):aU (w.alloc (.cells (bytesRow s cap) t fr)) (Option.some ⟨w.heap.size,0,Option.none⟩) cap s.data.toList:=by
 refine⟨by rw[Array.length_toList];exact hcap,fun e=>by simp at e,fun j hj=>⟨_,rfl,?_⟩⟩;rw[Array.length_toList] at hj;rw[Addr.add_lit,World.cell?_alloc_mark,Nat.zero_add,bytesRow_at s cap j hj];simp
theorem Np {P:Program}(W:World)(s:ByteArray)(src dst e:TypeId)(hs:P.underlying src=some .string)(hd:P.underlying dst=some (.slice e))(he:P.underlying e=some (.int .u8)):
 ∃cap w1,(convert src dst (.string s)).run P W=.ok (.slice (some ⟨W.heap.size,0,none⟩) s.size cap) w1∧Below W.heap.size W w1∧w1.heap.size=W.heap.size+1∧aU w1 (some ⟨W.heap.size,0,none⟩) cap s.data.toList:=by
 refine⟨_,_,run_bytes_of_string (P:=P) W src dst e s hs hd he,((aA _ W).alloc (Nat.le_refl _) _),by simp,aU.ofRow W.drew s _ _ _ (grownCap_ge W s.size 0 e)⟩
def au:Option Addr->Option Nat
 | some a=>some a.block
 | none=>none
theorem ay (ao:Option Addr)(n cap:Nat):(Value.slice ao n cap).ownBlock=au ao:=by cases ao <;> rfl
theorem dz {a b c:World}{row:Option Nat}(h:a.grownBy b row)(k:b.grownBy c row):a.grownBy c row :=
 ⟨k.os.trans h.os,k.tape.trans h.tape,k.output.trans h.output,Nat.le_trans h.size k.size,fun i hi hne=>(k.block i (Nat.lt_of_lt_of_le hi h.size) hne).trans (h.block i hi hne)⟩
theorem uP {a b:World}(row:Option Nat)(h:Below a.heap.size a b):a.grownBy b row:=⟨h.os,h.tape,h.output,h.size,fun i hi _=>h.block i hi⟩
theorem kF (w:World)(row:Option Nat):w.grownBy w.drew row:=⟨rfl,rfl,rfl,Nat.le_refl _,fun _ _ _=>rfl⟩
theorem dF {P:Program}{w:World}{ops:Array Oper}{rest:List Oper}{o:Oper}{a:Act}{Q:Exit->Act->World->Prop}(hgd:o.guard=none)(s x:Operand)(t:TypeId)
 (ho:o.op=.call { callee:=.builtin .append,args:=#[s,x],argTypes:=#[t,t] })
 (base:Nat) (e:TypeId) (i:TypeInfo) (ht:P.underlying t=some (.slice e)) (hi:P.info? e=some i) (hz:i.zero=some (.int .u8 0)) (hz1:i.size=1) (hz2:i.bytes=1)
 {ao:Option Addr} {cap n:Nat} {l:List UInt8} (hs:a.eval s=.slice ao n cap) (hn:l.length=n) (hown:aT w base e ao cap l)
 {dN:Option Addr} {cap2 n2:Nat} {l2:List UInt8} (hx:a.eval x=.slice dN n2 cap2) (hn2:l2.length=n2) (hsrc:aU w dN cap2 l2)
 (hlen:n+n2<=140737488355328) (hbase:base<=w.heap.size)
 (h:∀aD cap' w',aT w' base e aD cap' (l++l2)->w.grownBy w' (au ao)->(au aD=au ao∨au aD=some w.heap.size)->wpList P ops Q rest (a.put o.dst (.slice aD (n+n2) cap')) w'):wpList P ops Q (o::rest) a w:=by
 subst hn;subst hn2;cases dN with
 | none =>
   obtain⟨rfl,rfl⟩:=hsrc.kE;refine wpList_append_own_none hgd s x t ho base e i 1 ht hi _ l.length (bN l) hs hown hx ?_;have:=h ao cap w (by rw[List.append_nil];exact hown) ⟨rfl,rfl,rfl,Nat.le_refl _,fun _ _ _=>rfl⟩ (Or.inl rfl);simpa using this
 | some ad =>
   refine wpList_append_own_at w hgd s x t ho base e i (.int .u8 0) 1 1 ht hi hz hz1 hz2 rfl (by decide) _ l.length (bN l) hs hown ad l2.length cap2 (bN l2) hx (by rw[aG];omega) (fun j u hu=>?_) (oZ l2) (by unfold maxLen;omega) (by omega) hbase ?_
   . have hj:j<l2.length:=by
      have:=(List.getElem?_eq_some_iff.1 hu).1;rwa[aG] at this
     rw[fJ l2 j hj] at hu;injection hu with hu;subst hu;exact hsrc.cell j hj
   . intro v' w' hown' hg _ hat;rw[<-jQ] at hown';obtain⟨aD,cap',rfl,hB⟩:=aT.of (by simp) hown';rw[ay] at hg hat;rw[ay] at hat;have:=h aD cap' w' hB hg hat;simpa using this
theorem bW {P:Program}{w:World}{ops:Array Oper}{rest:List Oper}{o:Oper}{a:Act}{Q:Exit->Act->World->Prop}(hgd:o.guard=none)(s x:Operand)(t:TypeId)
 (ho:o.op=.call { callee:=.builtin .append,args:=#[s,x],argTypes:=#[t,t] })
 (base:Nat) (e:TypeId) (i:TypeInfo) (ht:P.underlying t=some (.slice e)) (hi:P.info? e=some i) (hz:i.zero=some (.int .u8 0)) (hz1:i.size=1) (hz2:i.bytes=1)
 {ao:Option Addr} {cap n:Nat} {l:List UInt8} (hs:a.eval s=.slice ao n cap) (hn:l.length=n) (hown:aT w base e ao cap l)
 {dN:Option Addr} {cap2 n2:Nat} {l2:List UInt8} (hx:a.eval x=.slice dN n2 cap2) (hn2:l2.length=n2) (hsrc:aU w dN cap2 l2)
 (hlen:n+n2<=140737488355328) (hbase:base<=w.heap.size)
 (h:∀aD cap' w',aT w' base e aD cap' (l++l2)->w.grownBy w' (au ao)->wpList P ops Q rest (a.put o.dst (.slice aD (n+n2) cap')) w'):wpList P ops Q (o::rest) a w :=
 dF hgd s x t ho base e i ht hi hz hz1 hz2 hs hn hown hx hn2 hsrc hlen hbase (fun aD cap' w' h1 h2 _=>h aD cap' w' h1 h2)
def cu (w:World)(ao:Option Addr)(cap n:Nat)(xs:List Value):Prop :=
 n<=cap∧(ao=none->cap=0)∧∀j u,xs[j]? = some u->∃a,ao=some a∧w.cell? (a.add j)=some u
theorem cu.cell {w:World}{a:Addr}{cap n:Nat}{xs:List Value}(h:cu w (some a) cap n xs){j:Nat}{u:Value}(hj:xs[j]? = some u):w.cell? (a.add j)=some u:=by
 obtain⟨a',e,hc⟩:=h.2.2 j u hj;injection e with e;subst e;exact hc
theorem cu.lit {w:World}{ao:Option Addr}{cap n:Nat}{xs:List Value}(h:cu w ao cap n xs)(hl:0<xs.length):∃b o,ao=Option.some ⟨b,o,Option.none⟩∧∀j u,xs[j]? = Option.some u->w.cell? ⟨b,o+j,Option.none⟩=Option.some u:=by
 obtain⟨⟨b,o,sp⟩,rfl,h0⟩:=h.2.2 0 xs[0] (List.getElem?_eq_getElem hl);have hs:sp=Option.none:=by simpa[Addr.add] using World.cell?_spot h0
 subst hs;refine⟨b,o,rfl,fun j u hj=>?_⟩;have:=h.cell hj;rwa[Addr.add_lit] at this
theorem cu.nil (w:World):cu w none 0 0 []:=⟨Nat.le_refl _,fun _=>rfl,fun j u hj=>by simp at hj⟩
theorem cu.move {w w':World}{ao:Option Addr}{cap n:Nat}{xs:List Value}(h:cu w ao cap n xs)(hc:∀a,ao=Option.some a->∀v j,w.cell? (a.add j)=Option.some v->w'.cell? (a.add j)=Option.some v):cu w' ao cap n xs:=by
 refine⟨h.1,h.2.1,fun j u hj=>?_⟩;obtain⟨a,e,hv⟩:=h.2.2 j u hj;exact⟨a,e,hc a e _ j hv⟩
theorem cu.stay {w w':World}{ao:Option Addr}{cap n:Nat}{xs:List Value}(h:cu w ao cap n xs)(hb:Below w.heap.size w w'):cu w' ao cap n xs :=
 h.move fun a _ v j hv=>by rw[hb.cell (World.block_lt_of_cell? w _ hv)];exact hv
theorem cu.grown {w w':World}{ao:Option Addr}{cap n:Nat}{xs:List Value}{row:Option Nat}(h:cu w ao cap n xs)(hg:w.grownBy w' row)(ha:∀a,ao=Option.some a->Option.some a.block≠row):cu w' ao cap n xs :=
 h.move fun a e v j hv=>hg.cell hv (by rw[add_block];exact ha a e)
theorem cu.alloc {w:World}{ao:Option Addr}{cap n:Nat}{xs:List Value}(h:cu w ao cap n xs)(o:Obj):cu (w.alloc o) ao cap n xs:=h.grown (World.grownBy_alloc w o none) (fun a _=>by simp)
theorem cu.made (w:World)(cs:Array Value)(n t:Nat)(fr:Nat×Nat):cu (w.alloc (.cells cs t fr)) (Option.some ⟨w.heap.size,0,Option.none⟩) n n cs.toList:=by
 refine⟨Nat.le_refl _,fun e=>by simp at e,fun j u hj=>⟨_,rfl,?_⟩⟩;rw[Addr.add_lit,World.cell?_alloc_mark,Nat.zero_add];simpa using hj
def aC (w:World)(base t k:Nat)(ao:Option Addr)(cap n:Nat)(xs:List Value):Prop:=w.ownsRow base t k (.slice ao n cap) n xs
theorem aC.nil (w:World)(base t k:Nat):aC w base t k none 0 0 []:=World.ownsRow_nil _ _ _ _
theorem aC.of {w:World}{base t k n:Nat}{v:Value}{xs:List Value}(h:w.ownsRow base t k v n xs):∃ao cap,v=.slice ao n cap∧aC w base t k ao cap n xs:=by
 rcases h.2 with ⟨rfl,h0⟩ | ⟨g,cap,cur,rfl,_⟩
 . subst h0;exact⟨none,0,rfl,h⟩
 . exact⟨_,_,rfl,h⟩
theorem aC.lQ {w:World}{base t k:Nat}{ao:Option Addr}{cap n:Nat}{xs:List Value}(h:aC w base t k ao cap n xs):cu w ao cap n xs:=by
 have hx:=h.1;rcases h.2 with ⟨e,h0⟩ | ⟨g,cap',cur,e,hg,hh,hn,hm,hs,ht⟩
 . injection e with e1 e2 e3;subst e1;subst e3;subst h0;rw[Nat.zero_mul] at hx;rw[List.eq_nil_of_length_eq_zero hx];exact cu.nil w
 . injection e with e1 e2 e3;subst e1;subst e3;exact⟨hn,fun e=>by simp at e,fun j u hj=>⟨_,rfl,World.ownsRow.cells h (g:=g) rfl j u hj⟩⟩
theorem aC.block {w:World}{base t k:Nat}{ao:Option Addr}{cap n:Nat}{xs:List Value}(h:aC w base t k ao cap n xs)(a:Addr)(e:ao=some a):base<=a.block∧a.block<w.heap.size:=by
 subst e;exact World.ownsRow.lt h a.block rfl
theorem aC.below {w w':World}{base t k:Nat}{ao:Option Addr}{cap n:Nat}{xs:List Value}{B:Nat}(h:aC w base t k ao cap n xs)(hb:Below B w w')(ha:∀a,ao=some a->a.block<B):aC w' base t k ao cap n xs:=by
 refine⟨h.1,?_⟩;rcases h.2 with hn | ⟨g,cap',cur,e,hg,hh,r⟩
 . exact Or.inl hn
 . refine Or.inr ⟨g,cap',cur,e,hg,?_,r⟩;injection e with e1 e2 e3;rw[hb.block g (ha _ e1)];exact hh
theorem aC.stay {w w':World}{base t k:Nat}{ao:Option Addr}{cap n:Nat}{xs:List Value}(h:aC w base t k ao cap n xs)(hb:Below w.heap.size w w'):aC w' base t k ao cap n xs:=h.below hb (fun a e=>(h.block a e).2)
theorem aT.stay {w w':World}{base t:Nat}{ao:Option Addr}{cap:Nat}{l:List UInt8}(h:aT w base t ao cap l)(hb:Below w.heap.size w w'):aT w' base t ao cap l:=h.below hb (fun a e=>(h.block a e).2)
theorem aC.mono {w:World}{base base' t k:Nat}{ao:Option Addr}{cap n:Nat}{xs:List Value}(h:aC w base t k ao cap n xs)(hb:base'<=base):aC w base' t k ao cap n xs:=by
 refine⟨h.1,?_⟩;rcases h.2 with hn | ⟨g,cap',cur,e,hg,r⟩
 . exact Or.inl hn
 . exact Or.inr ⟨g,cap',cur,e,by omega,r⟩
theorem aC.alloc {w:World}{base t k:Nat}{ao:Option Addr}{cap n:Nat}{xs:List Value}(h:aC w base t k ao cap n xs)(o:Obj):aC (w.alloc o) base t k ao cap n xs:=World.ownsRow.alloc h o
theorem aK {P:Program}{w:World}{ops:Array Oper}{rest:List Oper}{o:Oper}{a:Act}{Q:Exit->Act->World->Prop}(hgd:o.guard=none)(s x:Operand)(t:TypeId)
 (ho:o.op=.call { callee:=.builtin .append,args:=#[s,x],argTypes:=#[t,t] })
 (base:Nat) (e:TypeId) (i:TypeInfo) (z:Value) (k bytes:Nat) (ht:P.underlying t=some (.slice e)) (hi:P.info? e=some i) (hz:i.zero=some z) (hz1:i.size=k) (hz2:i.bytes=bytes) (hzs:z.cells.size=k) (hk:0<k)
 {ao:Option Addr} {cap n:Nat} {xs:List Value} (hs:a.eval s=.slice ao n cap) (hown:aC w base e k ao cap n xs)
 {dN:Option Addr} {cap2 n2:Nat} {ys:List Value} (hx:a.eval x=.slice dN n2 cap2) (hsrc:cu w dN cap2 n2 ys) (hy:ys.length=n2*k) (h1:∀u∈ys,u.oneCell'=true)
 (hlen:n+n2<=9223372036854775807) (hby:(n+n2)*bytes<=140737488355328) (hbase:base<=w.heap.size)
 (h:∀aD cap' w',aC w' base e k aD cap' (n+n2) (xs++ys)->w.grownBy w' (au ao)->(au aD=au ao∨au aD=some w.heap.size)->wpList P ops Q rest (a.put o.dst (.slice aD (n+n2) cap')) w'):wpList P ops Q (o::rest) a w:=by
 cases dN with
 | none =>
   have hc:=hsrc.2.1 rfl;have hn:=hsrc.1;obtain rfl:n2=0:=by omega
   subst hc;rw[Nat.zero_mul] at hy;obtain rfl:ys=[]:=List.eq_nil_of_length_eq_zero hy;refine wpList_append_own_none hgd s x t ho base e i k ht hi _ n xs hs hown hx ?_;have:=h ao cap w (by rw[List.append_nil];exact hown) ⟨rfl,rfl,rfl,Nat.le_refl _,fun _ _ _=>rfl⟩ (Or.inl rfl);simpa using this
 | some ad =>
   refine wpList_append_own_at w hgd s x t ho base e i z k bytes ht hi hz hz1 hz2 hzs hk _ n xs hs hown ad n2 cap2 ys hx hy (fun j u hu=>hsrc.cell hu) h1 (by unfold maxLen;omega) hby hbase ?_;intro v' w' hown' hg _ hat;obtain⟨aD,cap',rfl,hB⟩:=aC.of hown';rw[ay] at hg hat;rw[ay] at hat;exact h aD cap' w' hB hg hat
def vR (l:List ByteArray):List Value:=l.map Value.string
theorem nT (l:List ByteArray):(vR l).length=l.length:=by simp[vR]
theorem C8 (a b:List ByteArray):vR (a++b)=vR a++vR b:=by simp[vR]
theorem Bw (l:List ByteArray)(j:Nat)(h:j<l.length):(vR l)[j]? = some (.string l[j]):=by simp[vR,h]
def aB (l:List (ByteArray×ByteArray)):List Value:=l.flatMap fun p=>[.string p.1,.string p.2]
theorem iI (l:List (ByteArray×ByteArray)):(aB l).length=l.length*2:=by
 induction l with
 | nil=>rfl
 | cons p t ih=>simp only[aB,List.flatMap_cons,List.length_append,List.length_cons,List.length_nil] at ih ⊢;omega
theorem mI (a b:List (ByteArray×ByteArray)):aB (a++b)=aB a++aB b:=by simp[aB]
theorem Ad (l:List (ByteArray×ByteArray)):∀u∈aB l,u.oneCell'=true:=by
 intro u hu;obtain⟨p,_,hp⟩:=List.mem_flatMap.1 hu;simp at hp;rcases hp with rfl | rfl <;> rfl
theorem kG (l:List (ByteArray×ByteArray)):∀j (h:j<l.length),(aB l)[j*2]? = some (.string l[j].1)∧(aB l)[j*2+1]? = some (.string l[j].2):=by
 induction l with
 | nil=>intro j h;simp at h
 | cons p t ih =>
   intro j h;cases j with
   | zero=>exact⟨rfl,rfl⟩
   | succ j =>
     have:=ih j (by simpa using h);have e:∀q,(aB (p::t))[(q+2)]? = (aB t)[q]?:=fun q=>rfl;rw[show(j+1)*2=j*2+2 by omega,show j*2+2+1=(j*2+1)+2 by omega,e,e];simpa using this
structure aZ where
 kind:Int
 method:ByteArray
 target:ByteArray
 minor:Int
 fields:List (ByteArray×ByteArray)
 length:Int
 bytes:List UInt8
 dX:ByteArray
 dO:ByteArray
 ptype:ByteArray
 aH:List UInt8
 code:Int
structure EvS where
 fo:Option Addr
 ak:Nat
 bo:Option Addr
 aj:Nat
 po:Option Addr
 bS:Nat
def aZ.cells (e:aZ)(s:EvS):List Value:=[.int .i64 e.kind,.string e.method,.string e.target,.int .i64 e.minor,.slice s.fo e.fields.length s.ak,.int .i64 e.length,.slice s.bo e.bytes.length s.aj,.string e.dX,.string e.dO,.string e.ptype,.slice s.po e.aH.length s.bS,.int .i64 e.code]
structure WT (w:World)(b o:Nat)(e:aZ)(s:EvS):Prop where
 at_:∀j u,(e.cells s)[j]? = some u->w.cell? ⟨b,o+j,none⟩=some u
 fields:cu w s.fo s.ak e.fields.length (aB e.fields)
 bytes:aU w s.bo s.aj e.bytes
 aH:aU w s.po s.bS e.aH
def Zv (w:World)(ao:Option Addr)(cap:Nat)(es:List aZ):Prop :=
 es.length<=cap∧(ao=none->cap=0)∧∀j (hj:j<es.length),∃b o s,ao=some ⟨b,o,none⟩∧WT w b (o+j*12) es[j] s
end Go.Proofs.YtjmndjmhjleabaaGreatDoor
namespace Go.Proofs.YtjmndjmhjleabaaGreatDoor
def dB (b:List UInt8):aZ:=⟨2,⟨#[]⟩,⟨#[]⟩,0,[],0,b,⟨#[]⟩,⟨#[]⟩,⟨#[]⟩,[],0⟩
def tailD (l:List aZ):Bool :=
 match l.getLast? with
 | some x=>decide (x.kind=2)
 | none=>false
def j6 (l:List aZ):List UInt8 :=
 match l.getLast? with
 | some x=>x.bytes
 | none=>[]
def nQ (l:List aZ)(e:aZ):List aZ:=if e.kind=2∧tailD l=true then l.dropLast++[dB (j6 l++e.bytes)] else l++[e]
def fP (l:List aZ):List aZ:=l.foldl nQ []
def fE:List aZ->Nat
 | []=>0
 | e::r=>e.bytes.length+fE r
theorem kJ (l:List aZ)(e:aZ):tailD (l++[e])=decide (e.kind=2):=by unfold tailD;rw[List.getLast?_append];simp
theorem kK (l:List aZ)(e:aZ):j6 (l++[e])=e.bytes:=by unfold j6;rw[List.getLast?_append];simp
theorem jB {l:List aZ}(h:tailD l=true):∃q x,l=q++[x]∧x.kind=2:=by
 rcases List.eq_nil_or_concat l with rfl | ⟨q,x,rfl⟩
 . cases h
 . rw[List.concat_eq_append,kJ] at h;exact⟨q,x,by rw[List.concat_eq_append],of_decide_eq_true h⟩
theorem iq (q:List aZ)(x e:aZ)(hx:x.kind=2)(he:e.kind=2):nQ (q++[x]) e=q++[dB (x.bytes++e.bytes)]:=by
 unfold nQ;rw[if_pos ⟨he,by rw[kJ];exact decide_eq_true hx⟩,kK,List.dropLast_concat]
theorem gq (l:List aZ)(e:aZ)(h:e.kind=2->tailD l=false):nQ l e=l++[e]:=by
 unfold nQ;rw[if_neg (fun k=>by rw[h k.1] at k;cases k.2)]
theorem xB (l:List aZ)(e:aZ):fP (l++[e])=nQ (fP l) e:=by unfold fP;rw[List.foldl_append];rfl
theorem gy:∀a b:List aZ,fE (a++b)=fE a+fE b
 | [],b=>by simp[fE]
 | x::r,b=>by rw[List.cons_append,fE,fE,gy r b];omega
theorem Dv:∀(l:List aZ) (e:aZ),e∈l->e.bytes.length<=fE l
 | x :: r, e, h => by
   rw[fE];rcases List.mem_cons.1 h with rfl | h
   . omega
   . have:=Dv r e h;omega
theorem BH (l:List aZ):(j6 l).length<=fE l:=by
 rcases List.eq_nil_or_concat l with rfl | ⟨q,x,rfl⟩
 . exact Nat.zero_le _
 . rw[List.concat_eq_append,kK];exact Dv _ x (by simp)
theorem NV (l:List aZ)(e:aZ):fE (nQ l e)=fE l+e.bytes.length:=by
 by_cases h:e.kind=2∧tailD l=true
 . obtain⟨q,x,rfl,hx⟩:=jB h.2;rw[iq q x e hx h.1,gy,gy];simp[fE,dB];omega
 . rw[gq l e (fun k=>by
    cases ht:tailD l
    . rfl
    . exact absurd ⟨k,ht⟩ h),gy]
   simp[fE]
theorem Ar (l:List aZ):fE (fP l)=fE l:=by
 have:∀(m:List aZ) (o:List aZ),fE (m.foldl nQ o)=fE o+fE m:=by
  intro m;induction m with
  | nil=>intro o;simp[fE]
  | cons e r ih=>intro o;rw[List.foldl_cons,ih,NV,fE];omega
 have h:=this l [];simpa[fP,fE] using h
theorem Dw (l:List aZ)(e:aZ):(nQ l e).length<=l.length+1:=by
 by_cases h:e.kind=2∧tailD l=true
 . obtain⟨q,x,rfl,hx⟩:=jB h.2;rw[iq q x e hx h.1];simp
 . rw[gq l e (fun k=>by
    cases ht:tailD l
    . rfl
    . exact absurd ⟨k,ht⟩ h)]
   simp
theorem mP (l:List aZ):(fP l).length<=l.length:=by
 have:∀(m:List aZ) (o:List aZ),(m.foldl nQ o).length<=o.length+m.length:=by
  intro m;induction m with
  | nil=>intro o;simp
  | cons e r ih=>intro o;rw[List.foldl_cons];have h1:=ih (nQ o e);have h2:=Dw o e;simp only[List.length_cons];omega
 have h:=this l [];simpa[fP] using h
theorem Km {p:aZ->Prop}(hb:∀b,p (dB b))(l:List aZ)(h:∀e∈l,p e):∀e∈fP l,p e:=by
 have:∀(m:List aZ) (o:List aZ),(∀e∈o,p e)->(∀e∈m,p e)->∀e∈m.foldl nQ o,p e:=by
  intro m;induction m with
  | nil=>intro o ho _ e he;exact ho e he
  | cons x r ih =>
    intro o ho hm;rw[List.foldl_cons];refine ih (nQ o x) (fun e he=>?_) (fun e he=>hm e (List.mem_cons_of_mem _ he));unfold nQ at he;split at he
    . rcases List.mem_append.1 he with he | he
      . exact ho e (List.dropLast_subset o he)
      . rw[List.mem_singleton.1 he];exact hb _
    . rcases List.mem_append.1 he with he | he
      . exact ho e he
      . rw[List.mem_singleton.1 he];exact hm x (List.mem_cons_self ..)
 exact this l [] (fun e he=>by cases he) h
end Go.Proofs.YtjmndjmhjleabaaGreatDoor
namespace Go.Proofs.YtjmndjmhjleabaaGreatDoor
open Go.RowKit
end Go.Proofs.YtjmndjmhjleabaaGreatDoor