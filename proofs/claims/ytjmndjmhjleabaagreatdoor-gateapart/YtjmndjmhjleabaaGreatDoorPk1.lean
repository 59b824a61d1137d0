/- Small texts, one behind the other: Mem, MemV, MemE, JnA, MemQ, MemL. -/
import Derived.WalkKit
import Derived.Laws.AppendOwnNone
import Derived.Maps.AppendAt
import Derived.Laws.IdiomStrings
import Derived.DataElems
import Derived.Deep.Draws
namespace Go.Proofs.YtjmndjmhjleabaaGreatDoor
open Go.RowKit
theorem aA (B:Nat) (w:World):Below B w w.drew:=⟨rfl,rfl,rfl,Nat.le_refl _,fun _ _=>rfl⟩
def bQ (l:List UInt8):List Value:=l.map fun b=>.int .u8 (b.toNat:Int)
theorem aK (l:List UInt8):(bQ l).length=l.length:=by simp [bQ]
theorem kX (a b:List UInt8):bQ (a++b)=bQ a++bQ b:=by simp [bQ]
theorem qZ (l:List UInt8):∀ u∈bQ l,u.oneCell'=true:=by
 intro u hu;obtain ⟨b,_,rfl⟩:=List.mem_map.1 hu;rfl
theorem gG (l:List UInt8) (j:Nat) (h:j<l.length):(bQ l)[j]? = some (.int .u8 (l[j].toNat:Int)):=by
 simp [bQ,h]
def aT (w:World) (ao:Option Addr) (cap:Nat) (l:List UInt8):Prop :=
 l.length≤cap∧(ao=none→cap=0)∧∀ j (hj:j<l.length),∃ a,ao=some a∧w.cell? (a.add j)=some (.int .u8 (l[j].toNat:Int))
theorem aT.cell {w:World} {a:Addr} {cap:Nat} {l:List UInt8} (h:aT w (some a) cap l) (j:Nat) (hj:j<l.length):w.cell? (a.add j)=some (.int .u8 (l[j].toNat:Int)):=by
 obtain ⟨a',e,hc⟩:=h.2.2 j hj;injection e with e;subst e;exact hc
theorem aT.some {w:World} {ao:Option Addr} {cap:Nat} {l:List UInt8} (h:aT w ao cap l) (hl:0<l.length):∃ a,ao=some a:=by
 obtain ⟨a,e,_⟩:=h.2.2 0 hl;exact ⟨a,e⟩
theorem aT.nil (w:World):aT w none 0 []:=⟨Nat.le_refl _,fun _=>rfl,fun j hj=>by simp at hj⟩
theorem aT.l5 {w:World} {cap:Nat} {l:List UInt8} (h:aT w none cap l):l=[]∧cap=0:=by
 have hc:=h.2.1 rfl;have h1:=h.1;exact ⟨List.eq_nil_of_length_eq_zero (by omega),hc⟩
theorem aT.lit {w:World} {ao:Option Addr} {cap:Nat} {l:List UInt8} (h:aT w ao cap l) (hl:0<l.length):∃ b o,ao=Option.some ⟨b,o,Option.none⟩∧∀ j (hj:j<l.length),w.cell? ⟨b,o+j,Option.none⟩=Option.some (.int .u8 (l[j].toNat:Int)):=by
 obtain ⟨⟨b,o,sp⟩,rfl,h0⟩:=h.2.2 0 hl;have hs:sp=Option.none:=by simpa [Addr.add] using World.cell?_spot h0
 subst hs;refine ⟨b,o,rfl,fun j hj=>?_⟩;have:=h.cell j hj;rwa [Addr.add_lit] at this
theorem aT.move {w w':World} {ao:Option Addr} {cap:Nat} {l:List UInt8} (h:aT w ao cap l) (hc:∀ a,ao=Option.some a→∀ v j,w.cell? (a.add j)=Option.some v→w'.cell? (a.add j)=Option.some v):aT w' ao cap l:=by
 refine ⟨h.1,h.2.1,fun j hj=>?_⟩;obtain ⟨a,e,hv⟩:=h.2.2 j hj;exact ⟨a,e,hc a e _ j hv⟩
theorem add_block (a:Addr) (j:Nat):(a.add j).block=a.block:=by unfold Addr.add;split <;> rfl
theorem aT.grown {w w':World} {ao:Option Addr} {cap:Nat} {l:List UInt8} {row:Option Nat} (h:aT w ao cap l) (hg:w.grownBy w' row) (ha:∀ a,ao=Option.some a→Option.some a.block≠row):aT w' ao cap l :=
 h.move fun a e v j hv=>hg.cell hv (by rw [add_block];exact ha a e)
theorem aT.stay {w w':World} {ao:Option Addr} {cap:Nat} {l:List UInt8} (h:aT w ao cap l) (hb:Below w.heap.size w w'):aT w' ao cap l :=
 h.move fun a _ v j hv=>by rw [hb.cell (World.block_lt_of_cell? w _ hv)];exact hv
theorem aT.cut {w:World} {ao aF:Option Addr} {cap:Nat} {l:List UInt8} (h:aT w ao cap l) (lo hi:Nat) (h1:lo≤hi) (h2:hi≤l.length)
 (e2:cap≠lo→aF=ao.map (·.add lo)):aT w aF (cap - lo) ((l.drop lo).take (hi - lo)):=by
 have hc:=h.1;have hlen:((l.drop lo).take (hi - lo)).length=hi - lo:=by rw [List.length_take,List.length_drop];omega
 refine ⟨by omega,fun hn=>?_,fun j hj=>?_⟩
 · by_cases e:cap=lo
   · omega
   · have:=e2 e;rw [hn] at this;have ho:ao=none:=Option.map_eq_none_iff.1 this.symm;have:=h.2.1 ho;omega
 · rw [hlen] at hj;obtain ⟨a,e,hv⟩:=h.2.2 (lo+j) (by omega);have hne:cap≠lo:=by omega
   refine ⟨a.add lo,by rw [e2 hne,e];rfl,?_⟩;rw [Addr.add_add,hv];simp
theorem aT.drewN {w:World} {ao:Option Addr} {cap:Nat} {l:List UInt8} (h:aT w ao cap l) (n:Nat):aT (w.drewN n) ao cap l :=
 h.move (fun a _ v j hv=>by rw [World.cell?_drewN];exact hv)
theorem aT.first {w:World} {ao:Option Addr} {cap:Nat} {l:List UInt8} (h:aT w ao cap l) (n:Nat) (hn:n≤l.length):aT w ao cap (l.take n):=by
 have:=h.cut (aF:=ao) 0 n (Nat.zero_le _) hn (fun _=>by cases ao <;> simp [Addr.add]);simpa using this
theorem aT.str {P:Program} {w:World} {ao:Option Addr} {cap:Nat} {l:List UInt8} (h:aT w ao cap l) (src dst e:TypeId) (hs:P.underlying src=Option.some (.slice e)) (he:P.underlying e=Option.some (.int .u8)) (hd:P.underlying dst=Option.some .string) :
 (convert src dst (.slice ao l.length cap)).run P w=.ok (.string ⟨l.toArray⟩) w:=by
 cases ao with
 | none =>
   obtain ⟨rfl,rfl⟩:=h.l5;rw [run_convert_bytes_string w src dst e none _ _ hs he hd];rfl
 | some a=>exact run_convert_bytes_back w src dst e a cap l hs he hd (fun j hj=>h.cell j hj)
def aR (w:World) (base t:Nat) (ao:Option Addr) (cap:Nat) (l:List UInt8):Prop:=w.ownsRow base t 1 (.slice ao l.length cap) l.length (bQ l)
theorem aR.nil (w:World) (base t:Nat):aR w base t none 0 []:=World.ownsRow_nil _ _ _ _
theorem aR.of {w:World} {base t:Nat} {v:Value} {l:List UInt8} {n:Nat} (hn:n=l.length) (h:w.ownsRow base t 1 v n (bQ l)):∃ ao cap,v=.slice ao l.length cap∧aR w base t ao cap l:=by
 subst hn;rcases h.2 with ⟨rfl,h0⟩ | ⟨g,cap,cur,rfl,_⟩
 · have e:l=[]:=List.eq_nil_of_length_eq_zero h0;subst e;exact ⟨none,0,rfl,h⟩
 · exact ⟨_,_,rfl,h⟩
theorem aR.q8 {w:World} {base t:Nat} {ao:Option Addr} {cap:Nat} {l:List UInt8} (h:aR w base t ao cap l):aT w ao cap l:=by
 rcases h.2 with ⟨e,h0⟩ | ⟨g,cap',cur,e,hg,hh,hn,hm,hs,ht⟩
 · injection e with e1 e2 e3;subst e1;subst e3;rw [List.eq_nil_of_length_eq_zero h0];exact aT.nil w
 · injection e with e1 e2 e3;subst e1;subst e3;refine ⟨hn,fun e=>by simp at e,fun j hj=>⟨_,rfl,?_⟩⟩;exact World.ownsRow.cells h (g:=g) rfl j _ (gG l j hj)
theorem aR.block {w:World} {base t:Nat} {ao:Option Addr} {cap:Nat} {l:List UInt8} (h:aR w base t ao cap l) (a:Addr) (e:ao=some a):base≤a.block∧a.block<w.heap.size:=by
 subst e;exact World.ownsRow.lt h a.block rfl
theorem aR.head {w:World} {base t:Nat} {ao:Option Addr} {cap:Nat} {l:List UInt8} (h:aR w base t ao cap l) (hl:0<l.length):∃ g,ao=some ⟨g,0,none⟩∧base≤g∧∀ j (hj:j<l.length),w.cell? ⟨g,j,none⟩=some (.int .u8 (l[j].toNat:Int)):=by
 rcases h.2 with ⟨e,h0⟩ | ⟨g,cap',cur,e,hg,hh,hn,hm,hs,ht⟩
 · omega
 · injection e with e1 e2 e3;subst e1;subst e3;refine ⟨g,rfl,hg,fun j hj=>?_⟩;have:=World.ownsRow.cells h (g:=g) rfl j _ (gG l j hj);rwa [Addr.add_lit,Nat.zero_add] at this
theorem aR.kept {w w':World} {base t:Nat} {ao:Option Addr} {cap:Nat} {l:List UInt8} {row:Option Nat} (h:aR w base t ao cap l) (hg:w.grownBy w' row) (ha:∀ a,ao=some a→some a.block≠row):aR w' base t ao cap l:=by
 refine World.ownsRow.kept h hg ?_;cases ao with
 | none=>exact Or.inl rfl
 | some a=>exact Or.inr (ha a rfl)
theorem aR.below {w w':World} {base t:Nat} {ao:Option Addr} {cap:Nat} {l:List UInt8} {B:Nat} (h:aR w base t ao cap l) (hb:Below B w w') (ha:∀ a,ao=some a→a.block<B):aR w' base t ao cap l:=by
 refine ⟨h.1,?_⟩;rcases h.2 with hn | ⟨g,cap',cur,e,hg,hh,r⟩
 · exact Or.inl hn
 · refine Or.inr ⟨g,cap',cur,e,hg,?_,r⟩;injection e with e1 e2 e3;rw [hb.block g (ha _ e1)];exact hh
theorem aR.mono {w:World} {base base' t:Nat} {ao:Option Addr} {cap:Nat} {l:List UInt8} (h:aR w base t ao cap l) (hb:base'≤base):aR w base' t ao cap l:=by
 refine ⟨h.1,?_⟩;rcases h.2 with hn | ⟨g,cap',cur,e,hg,r⟩
 · exact Or.inl hn
 · exact Or.inr ⟨g,cap',cur,e,by omega,r⟩
theorem aR.alloc {w:World} {base t:Nat} {ao:Option Addr} {cap:Nat} {l:List UInt8} (h:aR w base t ao cap l) (o:Obj):aR (w.alloc o) base t ao cap l:=World.ownsRow.alloc h o
theorem aT.alloc {w:World} {ao:Option Addr} {cap:Nat} {l:List UInt8} (h:aT w ao cap l) (o:Obj):aT (w.alloc o) ao cap l:=h.grown (World.grownBy_alloc w o none) (fun a _=>by simp)
theorem aT.one (w:World) (c:UInt8) (t:Nat) (fr:Nat×Nat):aT (w.alloc (.cells #[.int .u8 (c.toNat:Int)] t fr)) (Option.some ⟨w.heap.size,0,Option.none⟩) 1 [c]:=by
 refine ⟨Nat.le_refl _,fun e=>by simp at e,fun j hj=>⟨_,rfl,?_⟩⟩;have e:j=0:=by simp at hj;exact hj
 subst e;rw [Addr.add_lit,World.cell?_alloc_mark];rfl
theorem aT.ofRow (w:World) (s:ByteArray) (cap t:Nat) (fr:Nat×Nat) (hcap:s.size≤cap):aT (w.alloc (.cells (bytesRow s cap) t fr)) (Option.some ⟨w.heap.size,0,Option.none⟩) cap s.data.toList:=by
 refine ⟨by rw [Array.length_toList];exact hcap,fun e=>by simp at e,fun j hj=>⟨_,rfl,?_⟩⟩;rw [Array.length_toList] at hj;rw [Addr.add_lit,World.cell?_alloc_mark,Nat.zero_add,bytesRow_at s cap j hj];simp
theorem uE {P:Program} (W:World) (s:ByteArray) (src dst e:TypeId) (hs:P.underlying src=some .string) (hd:P.underlying dst=some (.slice e)) (he:P.underlying e=some (.int .u8)) :
 ∃ cap w1,(convert src dst (.string s)).run P W=.ok (.slice (some ⟨W.heap.size,0,none⟩) s.size cap) w1∧Below W.heap.size W w1∧w1.heap.size=W.heap.size+1∧aT w1 (some ⟨W.heap.size,0,none⟩) cap s.data.toList:=by
 refine ⟨_,_,run_bytes_of_string (P:=P) W src dst e s hs hd he,((aA _ W).alloc (Nat.le_refl _) _),by simp,aT.ofRow W.drew s _ _ _ (grownCap_ge W s.size 0 e)⟩
def ak:Option Addr→Option Nat
 | some a=>some a.block
 | none=>none
theorem ay (ao:Option Addr) (n cap:Nat):(Value.slice ao n cap).ownBlock=ak ao:=by cases ao <;> rfl
theorem dM {a b c:World} {row:Option Nat} (h:a.grownBy b row) (k:b.grownBy c row):a.grownBy c row :=
 ⟨k.os.trans h.os,k.tape.trans h.tape,k.output.trans h.output,Nat.le_trans h.size k.size,fun i hi hne=>(k.block i (Nat.lt_of_lt_of_le hi h.size) hne).trans (h.block i hi hne)⟩
theorem xG {a b:World} (row:Option Nat) (h:Below a.heap.size a b):a.grownBy b row:=⟨h.os,h.tape,h.output,h.size,fun i hi _=>h.block i hi⟩
theorem l6 (w:World) (row:Option Nat):w.grownBy w.drew row:=⟨rfl,rfl,rfl,Nat.le_refl _,fun _ _ _=>rfl⟩
theorem aV {P:Program} {w:World} {ops:Array Oper} {rest:List Oper} {o:Oper} {a:Act} {Q:Exit→Act→World→Prop} (hgd:o.guard=none) (s x:Operand) (t:TypeId)
 (ho:o.op=.call { callee:=.builtin .append,args:=#[s,x],argTypes:=#[t,t] })
 (base:Nat) (e:TypeId) (i:TypeInfo) (ht:P.underlying t=some (.slice e)) (hi:P.info? e=some i) (hz:i.zero=some (.int .u8 0)) (hz1:i.size=1) (hz2:i.bytes=1)
 {ao:Option Addr} {cap n:Nat} {l:List UInt8} (hs:a.eval s=.slice ao n cap) (hn:l.length=n) (hown:aR w base e ao cap l)
 {bX:Option Addr} {cap2 n2:Nat} {l2:List UInt8} (hx:a.eval x=.slice bX n2 cap2) (hn2:l2.length=n2) (hsrc:aT w bX cap2 l2)
 (hlen:n+n2≤140737488355328) (hbase:base≤w.heap.size)
 (h:∀ aF cap' w',aR w' base e aF cap' (l++l2)→w.grownBy w' (ak ao)→(ak aF=ak ao∨ak aF=some w.heap.size)→wpList P ops Q rest (a.put o.dst (.slice aF (n+n2) cap')) w'):wpList P ops Q (o::rest) a w:=by
 subst hn;subst hn2;cases bX with
 | none =>
   obtain ⟨rfl,rfl⟩:=hsrc.l5;refine wpList_append_own_none hgd s x t ho base e i 1 ht hi _ l.length (bQ l) hs hown hx ?_;have:=h ao cap w (by rw [List.append_nil];exact hown) ⟨rfl,rfl,rfl,Nat.le_refl _,fun _ _ _=>rfl⟩ (Or.inl rfl);simpa using this
 | some ad =>
   refine wpList_append_own_at w hgd s x t ho base e i (.int .u8 0) 1 1 ht hi hz hz1 hz2 rfl (by decide) _ l.length (bQ l) hs hown ad l2.length cap2 (bQ l2) hx (by rw [aK];omega) (fun j u hu=>?_) (qZ l2) (by unfold maxLen;omega) (by omega) hbase ?_
   · have hj:j<l2.length:=by
      have:=(List.getElem?_eq_some_iff.1 hu).1;rwa [aK] at this
     rw [gG l2 j hj] at hu;injection hu with hu;subst hu;exact hsrc.cell j hj
   · intro v' w' hown' hg _ hat;rw [←kX] at hown';obtain ⟨aF,cap',rfl,hB⟩:=aR.of (by simp) hown';rw [ay] at hg hat;rw [ay] at hat;have:=h aF cap' w' hB hg hat;simpa using this
theorem bH {P:Program} {w:World} {ops:Array Oper} {rest:List Oper} {o:Oper} {a:Act} {Q:Exit→Act→World→Prop} (hgd:o.guard=none) (s x:Operand) (t:TypeId)
 (ho:o.op=.call { callee:=.builtin .append,args:=#[s,x],argTypes:=#[t,t] })
 (base:Nat) (e:TypeId) (i:TypeInfo) (ht:P.underlying t=some (.slice e)) (hi:P.info? e=some i) (hz:i.zero=some (.int .u8 0)) (hz1:i.size=1) (hz2:i.bytes=1)
 {ao:Option Addr} {cap n:Nat} {l:List UInt8} (hs:a.eval s=.slice ao n cap) (hn:l.length=n) (hown:aR w base e ao cap l)
 {bX:Option Addr} {cap2 n2:Nat} {l2:List UInt8} (hx:a.eval x=.slice bX n2 cap2) (hn2:l2.length=n2) (hsrc:aT w bX cap2 l2)
 (hlen:n+n2≤140737488355328) (hbase:base≤w.heap.size)
 (h:∀ aF cap' w',aR w' base e aF cap' (l++l2)→w.grownBy w' (ak ao)→wpList P ops Q rest (a.put o.dst (.slice aF (n+n2) cap')) w'):wpList P ops Q (o::rest) a w :=
 aV hgd s x t ho base e i ht hi hz hz1 hz2 hs hn hown hx hn2 hsrc hlen hbase (fun aF cap' w' h1 h2 _=>h aF cap' w' h1 h2)
def bS (w:World) (ao:Option Addr) (cap n:Nat) (xs:List Value):Prop :=
 n≤cap∧(ao=none→cap=0)∧∀ j u,xs[j]? = some u→∃ a,ao=some a∧w.cell? (a.add j)=some u
theorem bS.cell {w:World} {a:Addr} {cap n:Nat} {xs:List Value} (h:bS w (some a) cap n xs) {j:Nat} {u:Value} (hj:xs[j]? = some u):w.cell? (a.add j)=some u:=by
 obtain ⟨a',e,hc⟩:=h.2.2 j u hj;injection e with e;subst e;exact hc
theorem bS.lit {w:World} {ao:Option Addr} {cap n:Nat} {xs:List Value} (h:bS w ao cap n xs) (hl:0<xs.length):∃ b o,ao=Option.some ⟨b,o,Option.none⟩∧∀ j u,xs[j]? = Option.some u→w.cell? ⟨b,o+j,Option.none⟩=Option.some u:=by
 obtain ⟨⟨b,o,sp⟩,rfl,h0⟩:=h.2.2 0 xs[0] (List.getElem?_eq_getElem hl);have hs:sp=Option.none:=by simpa [Addr.add] using World.cell?_spot h0
 subst hs;refine ⟨b,o,rfl,fun j u hj=>?_⟩;have:=h.cell hj;rwa [Addr.add_lit] at this
theorem bS.nil (w:World):bS w none 0 0 []:=⟨Nat.le_refl _,fun _=>rfl,fun j u hj=>by simp at hj⟩
theorem bS.move {w w':World} {ao:Option Addr} {cap n:Nat} {xs:List Value} (h:bS w ao cap n xs) (hc:∀ a,ao=Option.some a→∀ v j,w.cell? (a.add j)=Option.some v→w'.cell? (a.add j)=Option.some v):bS w' ao cap n xs:=by
 refine ⟨h.1,h.2.1,fun j u hj=>?_⟩;obtain ⟨a,e,hv⟩:=h.2.2 j u hj;exact ⟨a,e,hc a e _ j hv⟩
theorem bS.stay {w w':World} {ao:Option Addr} {cap n:Nat} {xs:List Value} (h:bS w ao cap n xs) (hb:Below w.heap.size w w'):bS w' ao cap n xs :=
 h.move fun a _ v j hv=>by rw [hb.cell (World.block_lt_of_cell? w _ hv)];exact hv
theorem bS.grown {w w':World} {ao:Option Addr} {cap n:Nat} {xs:List Value} {row:Option Nat} (h:bS w ao cap n xs) (hg:w.grownBy w' row) (ha:∀ a,ao=Option.some a→Option.some a.block≠row):bS w' ao cap n xs :=
 h.move fun a e v j hv=>hg.cell hv (by rw [add_block];exact ha a e)
theorem bS.alloc {w:World} {ao:Option Addr} {cap n:Nat} {xs:List Value} (h:bS w ao cap n xs) (o:Obj):bS (w.alloc o) ao cap n xs:=h.grown (World.grownBy_alloc w o none) (fun a _=>by simp)
theorem bS.made (w:World) (cs:Array Value) (n t:Nat) (fr:Nat×Nat):bS (w.alloc (.cells cs t fr)) (Option.some ⟨w.heap.size,0,Option.none⟩) n n cs.toList:=by
 refine ⟨Nat.le_refl _,fun e=>by simp at e,fun j u hj=>⟨_,rfl,?_⟩⟩;rw [Addr.add_lit,World.cell?_alloc_mark,Nat.zero_add];simpa using hj
def aD (w:World) (base t k:Nat) (ao:Option Addr) (cap n:Nat) (xs:List Value):Prop:=w.ownsRow base t k (.slice ao n cap) n xs
theorem aD.nil (w:World) (base t k:Nat):aD w base t k none 0 0 []:=World.ownsRow_nil _ _ _ _
theorem aD.of {w:World} {base t k n:Nat} {v:Value} {xs:List Value} (h:w.ownsRow base t k v n xs):∃ ao cap,v=.slice ao n cap∧aD w base t k ao cap n xs:=by
 rcases h.2 with ⟨rfl,h0⟩ | ⟨g,cap,cur,rfl,_⟩
 · subst h0;exact ⟨none,0,rfl,h⟩
 · exact ⟨_,_,rfl,h⟩
theorem aD.jg {w:World} {base t k:Nat} {ao:Option Addr} {cap n:Nat} {xs:List Value} (h:aD w base t k ao cap n xs):bS w ao cap n xs:=by
 have hx:=h.1;rcases h.2 with ⟨e,h0⟩ | ⟨g,cap',cur,e,hg,hh,hn,hm,hs,ht⟩
 · injection e with e1 e2 e3;subst e1;subst e3;subst h0;rw [Nat.zero_mul] at hx;rw [List.eq_nil_of_length_eq_zero hx];exact bS.nil w
 · injection e with e1 e2 e3;subst e1;subst e3;exact ⟨hn,fun e=>by simp at e,fun j u hj=>⟨_,rfl,World.ownsRow.cells h (g:=g) rfl j u hj⟩⟩
theorem aD.block {w:World} {base t k:Nat} {ao:Option Addr} {cap n:Nat} {xs:List Value} (h:aD w base t k ao cap n xs) (a:Addr) (e:ao=some a):base≤a.block∧a.block<w.heap.size:=by
 subst e;exact World.ownsRow.lt h a.block rfl
theorem aD.below {w w':World} {base t k:Nat} {ao:Option Addr} {cap n:Nat} {xs:List Value} {B:Nat} (h:aD w base t k ao cap n xs) (hb:Below B w w') (ha:∀ a,ao=some a→a.block<B):aD w' base t k ao cap n xs:=by
 refine ⟨h.1,?_⟩;rcases h.2 with hn | ⟨g,cap',cur,e,hg,hh,r⟩
 · exact Or.inl hn
 · refine Or.inr ⟨g,cap',cur,e,hg,?_,r⟩;injection e with e1 e2 e3;rw [hb.block g (ha _ e1)];exact hh
theorem aD.stay {w w':World} {base t k:Nat} {ao:Option Addr} {cap n:Nat} {xs:List Value} (h:aD w base t k ao cap n xs) (hb:Below w.heap.size w w'):aD w' base t k ao cap n xs:=h.below hb (fun a e=>(h.block a e).2)
theorem aR.stay {w w':World} {base t:Nat} {ao:Option Addr} {cap:Nat} {l:List UInt8} (h:aR w base t ao cap l) (hb:Below w.heap.size w w'):aR w' base t ao cap l:=h.below hb (fun a e=>(h.block a e).2)
theorem aD.mono {w:World} {base base' t k:Nat} {ao:Option Addr} {cap n:Nat} {xs:List Value} (h:aD w base t k ao cap n xs) (hb:base'≤base):aD w base' t k ao cap n xs:=by
 refine ⟨h.1,?_⟩;rcases h.2 with hn | ⟨g,cap',cur,e,hg,r⟩
 · exact Or.inl hn
 · exact Or.inr ⟨g,cap',cur,e,by omega,r⟩
theorem aD.alloc {w:World} {base t k:Nat} {ao:Option Addr} {cap n:Nat} {xs:List Value} (h:aD w base t k ao cap n xs) (o:Obj):aD (w.alloc o) base t k ao cap n xs:=World.ownsRow.alloc h o
theorem aB {P:Program} {w:World} {ops:Array Oper} {rest:List Oper} {o:Oper} {a:Act} {Q:Exit→Act→World→Prop} (hgd:o.guard=none) (s x:Operand) (t:TypeId)
 (ho:o.op=.call { callee:=.builtin .append,args:=#[s,x],argTypes:=#[t,t] })
 (base:Nat) (e:TypeId) (i:TypeInfo) (z:Value) (k bytes:Nat) (ht:P.underlying t=some (.slice e)) (hi:P.info? e=some i) (hz:i.zero=some z) (hz1:i.size=k) (hz2:i.bytes=bytes) (hzs:z.cells.size=k) (hk:0<k)
 {ao:Option Addr} {cap n:Nat} {xs:List Value} (hs:a.eval s=.slice ao n cap) (hown:aD w base e k ao cap n xs)
 {bX:Option Addr} {cap2 n2:Nat} {ys:List Value} (hx:a.eval x=.slice bX n2 cap2) (hsrc:bS w bX cap2 n2 ys) (hy:ys.length=n2*k) (h1:∀ u∈ys,u.oneCell'=true)
 (hlen:n+n2≤9223372036854775807) (hby:(n+n2)*bytes≤140737488355328) (hbase:base≤w.heap.size)
 (h:∀ aF cap' w',aD w' base e k aF cap' (n+n2) (xs++ys)→w.grownBy w' (ak ao)→(ak aF=ak ao∨ak aF=some w.heap.size)→wpList P ops Q rest (a.put o.dst (.slice aF (n+n2) cap')) w'):wpList P ops Q (o::rest) a w:=by
 cases bX with
 | none =>
   have hc:=hsrc.2.1 rfl;have hn:=hsrc.1;obtain rfl:n2=0:=by omega
   subst hc;rw [Nat.zero_mul] at hy;obtain rfl:ys=[]:=List.eq_nil_of_length_eq_zero hy;refine wpList_append_own_none hgd s x t ho base e i k ht hi _ n xs hs hown hx ?_;have:=h ao cap w (by rw [List.append_nil];exact hown) ⟨rfl,rfl,rfl,Nat.le_refl _,fun _ _ _=>rfl⟩ (Or.inl rfl);simpa using this
 | some ad =>
   refine wpList_append_own_at w hgd s x t ho base e i z k bytes ht hi hz hz1 hz2 hzs hk _ n xs hs hown ad n2 cap2 ys hx hy (fun j u hu=>hsrc.cell hu) h1 (by unfold maxLen;omega) hby hbase ?_;intro v' w' hown' hg _ hat;obtain ⟨aF,cap',rfl,hB⟩:=aD.of hown';rw [ay] at hg hat;rw [ay] at hat;exact h aF cap' w' hB hg hat
def jL (l:List ByteArray):List Value:=l.map Value.string
theorem nk (l:List ByteArray):(jL l).length=l.length:=by simp [jL]
theorem qd (a b:List ByteArray):jL (a++b)=jL a++jL b:=by simp [jL]
theorem uF (l:List ByteArray) (j:Nat) (h:j<l.length):(jL l)[j]? = some (.string l[j]):=by simp [jL,h]
def aC (l:List (ByteArray×ByteArray)):List Value:=l.flatMap fun p=>[.string p.1,.string p.2]
theorem iG (l:List (ByteArray×ByteArray)):(aC l).length=l.length*2:=by
 induction l with
 | nil=>rfl
 | cons p t ih=>simp only [aC,List.flatMap_cons,List.length_append,List.length_cons,List.length_nil] at ih ⊢;omega
theorem kY (a b:List (ByteArray×ByteArray)):aC (a++b)=aC a++aC b:=by simp [aC]
theorem Da (l:List (ByteArray×ByteArray)):∀ u∈aC l,u.oneCell'=true:=by
 intro u hu;obtain ⟨p,_,hp⟩:=List.mem_flatMap.1 hu;simp at hp;rcases hp with rfl | rfl <;> rfl
theorem jv (l:List (ByteArray×ByteArray)):∀ j (h:j<l.length),(aC l)[j*2]? = some (.string l[j].1)∧(aC l)[j*2+1]? = some (.string l[j].2):=by
 induction l with
 | nil=>intro j h;simp at h
 | cons p t ih =>
   intro j h;cases j with
   | zero=>exact ⟨rfl,rfl⟩
   | succ j =>
     have:=ih j (by simpa using h);have e:∀ q,(aC (p::t))[(q+2)]? = (aC t)[q]?:=fun q=>rfl;rw [show (j+1)*2=j*2+2 by omega,show j*2+2+1=(j*2+1)+2 by omega,e,e];simpa using this
structure aZ where
 kind:Int
 method:ByteArray
 target:ByteArray
 minor:Int
 fields:List (ByteArray×ByteArray)
 length:Int
 bytes:List UInt8
 fG:ByteArray
 eG:ByteArray
 ptype:ByteArray
 aL:List UInt8
 code:Int
structure EvS where
 fo:Option Addr
 au:Nat
 bo:Option Addr
 aj:Nat
 po:Option Addr
 bY:Nat
def aZ.cells (e:aZ) (s:EvS):List Value:=[.int .i64 e.kind,.string e.method,.string e.target,.int .i64 e.minor,.slice s.fo e.fields.length s.au,.int .i64 e.length,.slice s.bo e.bytes.length s.aj,.string e.fG,.string e.eG,.string e.ptype,.slice s.po e.aL.length s.bY,.int .i64 e.code]
structure YU (w:World) (b o:Nat) (e:aZ) (s:EvS):Prop where
 at_:∀ j u,(e.cells s)[j]? = some u→w.cell? ⟨b,o+j,none⟩=some u
 fields:bS w s.fo s.au e.fields.length (aC e.fields)
 bytes:aT w s.bo s.aj e.bytes
 aL:aT w s.po s.bY e.aL
def Co (w:World) (ao:Option Addr) (cap:Nat) (es:List aZ):Prop :=
 es.length≤cap∧(ao=none→cap=0)∧∀ j (hj:j<es.length),∃ b o s,ao=some ⟨b,o,none⟩∧YU w b (o+j*12) es[j] s
theorem Co.nil (w:World):Co w none 0 []:=⟨Nat.le_refl _,fun _=>rfl,fun j hj=>by simp at hj⟩
theorem Co.lit {w:World} {ao:Option Addr} {cap:Nat} {es:List aZ} (h:Co w ao cap es) (hl:0<es.length):∃ b o,ao=some ⟨b,o,none⟩∧∀ j (hj:j<es.length),∃ s,YU w b (o+j*12) es[j] s:=by
 obtain ⟨b,o,_,rfl,_⟩:=h.2.2 0 hl;refine ⟨b,o,rfl,fun j hj=>?_⟩;obtain ⟨b',o',s,e,hE⟩:=h.2.2 j hj;injection e with e;injection e with e1 e2;subst e1;subst e2;exact ⟨s,hE⟩
end Go.Proofs.YtjmndjmhjleabaaGreatDoor
namespace Go.Proofs.YtjmndjmhjleabaaGreatDoor
def dO (b:List UInt8):aZ:=⟨2,⟨#[]⟩,⟨#[]⟩,0,[],0,b,⟨#[]⟩,⟨#[]⟩,⟨#[]⟩,[],0⟩
def tailD (l:List aZ):Bool :=
 match l.getLast? with
 | some x=>decide (x.kind=2)
 | none=>false
def lS (l:List aZ):List UInt8 :=
 match l.getLast? with
 | some x=>x.bytes
 | none=>[]
def pY (l:List aZ) (e:aZ):List aZ:=if e.kind=2∧tailD l=true then l.dropLast++[dO (lS l++e.bytes)] else l++[e]
def gM (l:List aZ):List aZ:=l.foldl pY []
def gq:List aZ→Nat
 | []=>0
 | e::r=>e.bytes.length+gq r
theorem mE (l:List aZ) (e:aZ):tailD (l++[e])=decide (e.kind=2):=by unfold tailD;rw [List.getLast?_append];simp
theorem mF (l:List aZ) (e:aZ):lS (l++[e])=e.bytes:=by unfold lS;rw [List.getLast?_append];simp
theorem ku {l:List aZ} (h:tailD l=true):∃ q x,l=q++[x]∧x.kind=2:=by
 rcases List.eq_nil_or_concat l with rfl | ⟨q,x,rfl⟩
 · cases h
 · rw [List.concat_eq_append,mE] at h;exact ⟨q,x,by rw [List.concat_eq_append],of_decide_eq_true h⟩
theorem jd (q:List aZ) (x e:aZ) (hx:x.kind=2) (he:e.kind=2):pY (q++[x]) e=q++[dO (x.bytes++e.bytes)]:=by
 unfold pY;rw [if_pos ⟨he,by rw [mE];exact decide_eq_true hx⟩,mF,List.dropLast_concat]
theorem ig (l:List aZ) (e:aZ) (h:e.kind=2→tailD l=false):pY l e=l++[e]:=by
 unfold pY;rw [if_neg (fun k=>by rw [h k.1] at k;cases k.2)]
theorem zS (l:List aZ) (e:aZ):gM (l++[e])=pY (gM l) e:=by unfold gM;rw [List.foldl_append];rfl
theorem iq:∀ a b:List aZ,gq (a++b)=gq a+gq b
 | [],b=>by simp [gq]
 | x::r,b=>by rw [List.cons_append,gq,gq,iq r b];omega
theorem GJ:∀ (l:List aZ) (e:aZ),e∈l→e.bytes.length≤gq l
 | x :: r, e, h => by
   rw [gq];rcases List.mem_cons.1 h with rfl | h
   · omega
   · have:=GJ r e h;omega
theorem EP (l:List aZ):(lS l).length≤gq l:=by
 rcases List.eq_nil_or_concat l with rfl | ⟨q,x,rfl⟩
 · exact Nat.zero_le _
 · rw [List.concat_eq_append,mF];exact GJ _ x (by simp)
theorem R9 (l:List aZ) (e:aZ):gq (pY l e)=gq l+e.bytes.length:=by
 by_cases h:e.kind=2∧tailD l=true
 · obtain ⟨q,x,rfl,hx⟩:=ku h.2;rw [jd q x e hx h.1,iq,iq];simp [gq,dO];omega
 · rw [ig l e (fun k=>by
    cases ht:tailD l
    · rfl
    · exact absurd ⟨k,ht⟩ h),iq]
   simp [gq]
theorem DK (l:List aZ):gq (gM l)=gq l:=by
 have:∀ (m:List aZ) (o:List aZ),gq (m.foldl pY o)=gq o+gq m:=by
  intro m;induction m with
  | nil=>intro o;simp [gq]
  | cons e r ih=>intro o;rw [List.foldl_cons,ih,R9,gq];omega
 have h:=this l [];simpa [gM,gq] using h
theorem GK (l:List aZ) (e:aZ):(pY l e).length≤l.length+1:=by
 by_cases h:e.kind=2∧tailD l=true
 · obtain ⟨q,x,rfl,hx⟩:=ku h.2;rw [jd q x e hx h.1];simp
 · rw [ig l e (fun k=>by
    cases ht:tailD l
    · rfl
    · exact absurd ⟨k,ht⟩ h)]
   simp
theorem oI (l:List aZ):(gM l).length≤l.length:=by
 have:∀ (m:List aZ) (o:List aZ),(m.foldl pY o).length≤o.length+m.length:=by
  intro m;induction m with
  | nil=>intro o;simp
  | cons e r ih=>intro o;rw [List.foldl_cons];have h1:=ih (pY o e);have h2:=GK o e;simp only [List.length_cons];omega
 have h:=this l [];simpa [gM] using h
theorem Og {p:aZ→Prop} (hb:∀ b,p (dO b)) (l:List aZ) (h:∀ e∈l,p e):∀ e∈gM l,p e:=by
 have:∀ (m:List aZ) (o:List aZ),(∀ e∈o,p e)→(∀ e∈m,p e)→∀ e∈m.foldl pY o,p e:=by
  intro m;induction m with
  | nil=>intro o ho _ e he;exact ho e he
  | cons x r ih =>
    intro o ho hm;rw [List.foldl_cons];refine ih (pY o x) (fun e he=>?_) (fun e he=>hm e (List.mem_cons_of_mem _ he));unfold pY at he;split at he
    · rcases List.mem_append.1 he with he | he
      · exact ho e (List.dropLast_subset o he)
      · rw [List.mem_singleton.1 he];exact hb _
    · rcases List.mem_append.1 he with he | he
      · exact ho e he
      · rw [List.mem_singleton.1 he];exact hm x (List.mem_cons_self ..)
 exact this l [] (fun e he=>by cases he) h
end Go.Proofs.YtjmndjmhjleabaaGreatDoor
namespace Go.Proofs.YtjmndjmhjleabaaGreatDoor
open Go.RowKit
end Go.Proofs.YtjmndjmhjleabaaGreatDoor