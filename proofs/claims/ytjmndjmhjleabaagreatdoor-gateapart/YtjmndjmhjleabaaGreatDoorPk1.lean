/- Small texts, one behind the other: Mem, MemV, MemE, JnA, MemQ, MemL. -/
import Derived.Test.YtjmndjmhjleabaaGreatDoorAl
import Derived.Test.YtjmndjmhjleabaaGreatDoorAm
import Derived.WalkKit
import Derived.Laws.AppendOwnNone
import Derived.Maps.AppendAt
import Derived.Laws.IdiomStrings
import Derived.DataElems
import Derived.Deep.Draws
namespace Go.Proofs.YtjmndjmhjleabaaGreatDoor
open Go.RowKit
theorem gQ (B:Nat)(w:World):Below B w w.drew:=⟨rfl,rfl,rfl,aM _,fun _ _=>rfl⟩
def jk (l:av):List Value:=l.map fun b=>.int .u8 (b.toNat:Int)
theorem iq (l:av):(jk l).length=l.length:=by simp[jk]
theorem qA (a b:av):jk (a++b)=jk a++jk b:=by simp[jk]
theorem wZ (l:av):∀u∈jk l,u.oneCell'=true:=by
 intro u hu;obtain⟨b,_,rfl⟩:=aN.1 hu;rfl
theorem lS (l:av)(j:Nat)(h:j<l.length):(jk l)[j]? = some (.int .u8 (l[j].toNat:Int)):=by
 simp[jk,h]
def iH (w:World)(ao:ak)(cap:Nat)(l:av):Prop :=
 l.length<=cap∧(ao=none->cap=0)∧∀j (hj:j<l.length),∃a,ao=some a∧w.cell? (a.add j)=some (.int .u8 (l[j].toNat:Int))
theorem iH.cell {w:World}{a:Addr}{cap:Nat}{l:av}(h:iH w (some a) cap l)(j:Nat)(hj:j<l.length):w.cell? (a.add j)=some (.int .u8 (l[j].toNat:Int)):=by
 obtain⟨a',e,hc⟩:=h.2.2 j hj;injection e with e;subst e;exact hc
theorem iH.some {w:World}{ao:ak}{cap:Nat}{l:av}(h:iH w ao cap l)(hl:0<l.length):∃a,ao=some a:=by
 obtain⟨a,e,_⟩:=h.2.2 0 hl;exact⟨a,e⟩
theorem iH.nil (w:World):iH w none 0 []:=⟨aM _,fun _=>rfl,fun j hj=>by simp at hj⟩
theorem iH.rz {w:World}{cap:Nat}{l:av}(h:iH w none cap l):l=[]∧cap=0:=by
 have hc:=h.2.1 rfl;have h1:=h.1;exact⟨dw (by omega),hc⟩
theorem iH.lit {w:World}{ao:ak}{cap:Nat}{l:av}(h:iH w ao cap l)(hl:0<l.length):∃b o,ao=Option.some ⟨b,o,Option.none⟩∧∀j (hj:j<l.length),w.cell? ⟨b,o+j,Option.none⟩=Option.some (.int .u8 (l[j].toNat:Int)):=by
 obtain⟨⟨b,o,sp⟩,rfl,h0⟩:=h.2.2 0 hl;have hs:sp=Option.none:=by simpa[Addr.add] using World.cell?_spot h0
 subst hs;refine⟨b,o,rfl,fun j hj=>?_⟩;have:=h.cell j hj;rwa[gI] at this
theorem iH.move {w w':World}{ao:ak}{cap:Nat}{l:av}(h:iH w ao cap l)(hc:∀a,ao=Option.some a->∀v j,w.cell? (a.add j)=Option.some v->w'.cell? (a.add j)=Option.some v):iH w' ao cap l:=by
 refine⟨h.1,h.2.1,fun j hj=>?_⟩;obtain⟨a,e,hv⟩:=h.2.2 j hj;exact⟨a,e,hc a e _ j hv⟩
theorem add_block (a:Addr)(j:Nat):(a.add j).block=a.block:=by unfold Addr.add;split <;> rfl
theorem iH.grown {w w':World}{ao:ak}{cap:Nat}{l:av}{row:Option Nat}(h:iH w ao cap l)(hg:w.grownBy w' row)(ha:∀a,ao=Option.some a->Option.some a.block≠row):iH w' ao cap l :=
 h.move fun a e v j hv=>hg.cell hv (by rw[add_block];exact ha a e)
theorem iH.stay {w w':World}{ao:ak}{cap:Nat}{l:av}(h:iH w ao cap l)(hb:aj w w'):iH w' ao cap l :=
 h.move fun a _ v j hv=>by rw[hb.cell (gq w _ hv)];exact hv
theorem iH.cut {w:World}{ao gW:ak}{cap:Nat}{l:av}(h:iH w ao cap l)(lo hi:Nat)(h1:lo<=hi)(h2:hi<=l.length)
 (e2:cap≠lo->gW=ao.map (·.add lo)):iH w gW (cap-lo) ((l.drop lo).take (hi-lo)):=by
 have hc:=h.1;have hlen:((l.drop lo).take (hi-lo)).length=hi-lo:=by rw[bY,bV];omega
 refine⟨by omega,fun hn=>?_,fun j hj=>?_⟩
 . by_cases e:cap=lo
   . omega
   . have:=e2 e;rw[hn] at this;have ho:ao=none:=Option.map_eq_none_iff.1 this.symm;have:=h.2.1 ho;omega
 . rw[hlen] at hj;obtain⟨a,e,hv⟩:=h.2.2 (lo+j) (by omega);have hne:cap≠lo:=by omega
   refine⟨a.add lo,by rw[e2 hne,e];rfl,?_⟩;rw[Addr.add_add,hv];simp
theorem iH.drewN {w:World}{ao:ak}{cap:Nat}{l:av}(h:iH w ao cap l)(n:Nat):iH (w.drewN n) ao cap l :=
 h.move (fun a _ v j hv=>by rw[World.cell?_drewN];exact hv)
theorem iH.first {w:World}{ao:ak}{cap:Nat}{l:av}(h:iH w ao cap l)(n:Nat)(hn:n<=l.length):iH w ao cap (l.take n):=by
 have:=h.cut (gW:=ao) 0 n (aA _) hn (fun _=>by cases ao <;> simp[Addr.add]);simpa using this
theorem iH.str {P:Program}{w:World}{ao:ak}{cap:Nat}{l:av}(h:iH w ao cap l)(src dst e:TypeId)(hs:P.underlying src=Option.some (.slice e))(he:P.underlying e=Option.some (.int .u8))(hd:P.underlying dst=Option.some .string):
 (convert src dst (.slice ao l.length cap)).run P w=.ok (.string ⟨l.toArray⟩) w:=by
 cases ao with
 | none =>
   obtain⟨rfl,rfl⟩:=h.rz;rw[run_convert_bytes_string w src dst e none _ _ hs he hd];rfl
 | some a=>exact run_convert_bytes_back w src dst e a cap l hs he hd (fun j hj=>h.cell j hj)
def iF (w:World)(base t:Nat)(ao:ak)(cap:Nat)(l:av):Prop:=w.ownsRow base t 1 (.slice ao l.length cap) l.length (jk l)
theorem iF.nil (w:World)(base t:Nat):iF w base t none 0 []:=World.ownsRow_nil _ _ _ _
theorem iF.of {w:World}{base t:Nat}{v:Value}{l:av}{n:Nat}(hn:n=l.length)(h:w.ownsRow base t 1 v n (jk l)):∃ao cap,v=.slice ao l.length cap∧iF w base t ao cap l:=by
 subst hn;rcases h.2 with ⟨rfl,h0⟩ | ⟨g,cap,cur,rfl,_⟩
 . have e:l=[]:=dw h0;subst e;exact⟨none,0,rfl,h⟩
 . exact⟨_,_,rfl,h⟩
theorem iF.xg {w:World}{base t:Nat}{ao:ak}{cap:Nat}{l:av}(h:iF w base t ao cap l):iH w ao cap l:=by
 rcases h.2 with ⟨e,h0⟩ | ⟨g,cap',cur,e,hg,hh,hn,hm,hs,ht⟩
 . injection e with e1 e2 e3;subst e1;subst e3;rw[dw h0];exact iH.nil w
 . injection e with e1 e2 e3;subst e1;subst e3;refine⟨hn,fun e=>by simp at e,fun j hj=>⟨_,rfl,?_⟩⟩;exact World.ownsRow.cells h (g:=g) rfl j _ (lS l j hj)
theorem iF.block {w:World}{base t:Nat}{ao:ak}{cap:Nat}{l:av}(h:iF w base t ao cap l)(a:Addr)(e:ao=some a):base<=a.block∧a.block<w.heap.size:=by
 subst e;exact World.ownsRow.lt h a.block rfl
theorem iF.head {w:World}{base t:Nat}{ao:ak}{cap:Nat}{l:av}(h:iF w base t ao cap l)(hl:0<l.length):∃g,ao=some ⟨g,0,none⟩∧base<=g∧∀j (hj:j<l.length),w.cell? ⟨g,j,none⟩=some (.int .u8 (l[j].toNat:Int)):=by
 rcases h.2 with ⟨e,h0⟩ | ⟨g,cap',cur,e,hg,hh,hn,hm,hs,ht⟩
 . omega
 . injection e with e1 e2 e3;subst e1;subst e3;refine⟨g,rfl,hg,fun j hj=>?_⟩;have:=World.ownsRow.cells h (g:=g) rfl j _ (lS l j hj);rwa[gI,bq] at this
theorem iF.kept {w w':World}{base t:Nat}{ao:ak}{cap:Nat}{l:av}{row:Option Nat}(h:iF w base t ao cap l)(hg:w.grownBy w' row)(ha:∀a,ao=some a->some a.block≠row):iF w' base t ao cap l:=by
 refine World.ownsRow.kept h hg ?_;cases ao with
 | none=>exact Or.inl rfl
 | some a=>exact Or.inr (ha a rfl)
theorem iF.below {w w':World}{base t:Nat}{ao:ak}{cap:Nat}{l:av}{B:Nat}(h:iF w base t ao cap l)(hb:Below B w w')(ha:∀a,ao=some a->a.block<B):iF w' base t ao cap l:=by
 refine⟨h.1,?_⟩;rcases h.2 with hn | ⟨g,cap',cur,e,hg,hh,r⟩
 . exact Or.inl hn
 . refine Or.inr ⟨g,cap',cur,e,hg,?_,r⟩;injection e with e1 e2 e3;rw[hb.block g (ha _ e1)];exact hh
theorem iF.mono {w:World}{base base' t:Nat}{ao:ak}{cap:Nat}{l:av}(h:iF w base t ao cap l)(hb:base'<=base):iF w base' t ao cap l:=by
 refine⟨h.1,?_⟩;rcases h.2 with hn | ⟨g,cap',cur,e,hg,r⟩
 . exact Or.inl hn
 . exact Or.inr ⟨g,cap',cur,e,by omega,r⟩
theorem iF.alloc {w:World}{base t:Nat}{ao:ak}{cap:Nat}{l:av}(h:iF w base t ao cap l)(o:Obj):iF (w.alloc o) base t ao cap l:=World.ownsRow.alloc h o
theorem iH.alloc {w:World}{ao:ak}{cap:Nat}{l:av}(h:iH w ao cap l)(o:Obj):iH (w.alloc o) ao cap l:=h.grown (gB w o none) (fun a _=>by simp)
theorem iH.one (w:World)(c:UInt8)(t:Nat)(fr:Nat×Nat):iH (w.alloc (.cells #[.int .u8 (c.toNat:Int)] t fr)) (Option.some ⟨w.heap.size,0,Option.none⟩) 1 [c]:=by
 refine⟨aM _,fun e=>by simp at e,fun j hj=>⟨_,rfl,?_⟩⟩;have e:j=0:=by simp at hj;exact hj
 subst e;rw[gI,World.cell?_alloc_mark];rfl
theorem iH.ofRow (w:World)(s:ay)(cap t:Nat)(fr:Nat×Nat)(hcap:s.size<=cap):iH (w.alloc (.cells (bytesRow s cap) t fr)) (Option.some ⟨w.heap.size,0,Option.none⟩) cap s.data.toList:=by
 refine⟨by rw[aO];exact hcap,fun e=>by simp at e,fun j hj=>⟨_,rfl,?_⟩⟩;rw[aO] at hj;rw[gI,World.cell?_alloc_mark,bq,bytesRow_at s cap j hj];simp
theorem zm {P:Program}(W:World)(s:ay)(src dst e:TypeId)(hs:P.underlying src=some .string)(hd:P.underlying dst=some (.slice e))(he:P.underlying e=some (.int .u8)):
 ∃cap w1,(convert src dst (.string s)).run P W=.ok (.slice (some ⟨W.heap.size,0,none⟩) s.size cap) w1∧aj W w1∧w1.heap.size=W.heap.size+1∧iH w1 (some ⟨W.heap.size,0,none⟩) cap s.data.toList:=by
 refine⟨_,_,run_bytes_of_string (P:=P) W src dst e s hs hd he,((gQ _ W).alloc (aM _) _),by simp,iH.ofRow W.drew s _ _ _ (grownCap_ge W s.size 0 e)⟩
def gL:ak->Option Nat
 | some a=>some a.block
 | none=>none
theorem gP (ao:ak)(n cap:Nat):(Value.slice ao n cap).ownBlock=gL ao:=by cases ao <;> rfl
theorem jW {a b c:World}{row:Option Nat}(h:a.grownBy b row)(k:b.grownBy c row):a.grownBy c row :=
 ⟨k.os.trans h.os,k.tape.trans h.tape,k.output.trans h.output,dG h.size k.size,fun i hi hne=>(k.block i (cB hi h.size) hne).trans (h.block i hi hne)⟩
theorem Bv {a b:World}(row:Option Nat)(h:aj a b):a.grownBy b row:=⟨h.os,h.tape,h.output,h.size,fun i hi _=>h.block i hi⟩
theorem rA (w:World)(row:Option Nat):w.grownBy w.drew row:=⟨rfl,rfl,rfl,aM _,fun _ _ _=>rfl⟩
theorem iJ {P:Program}{w:World}{ops:Array Oper}{rest:List Oper}{o:Oper}{a:Act}{Q:Exit->Act->World->Prop}(hgd:o.guard=none)(s x:Operand)(t:TypeId)
 (ho:o.op=.call { callee:=.builtin .append,args:=#[s,x],argTypes:=#[t,t] })
 (base:Nat) (e:TypeId) (i:TypeInfo) (ht:P.underlying t=some (.slice e)) (hi:P.info? e=some i) (hz:i.zero=some (.int .u8 0)) (hz1:i.size=1) (hz2:i.bytes=1)
 {ao:ak} {cap n:Nat} {l:av} (hs:a.eval s=.slice ao n cap) (hn:l.length=n) (hown:iF w base e ao cap l)
 {jy:ak} {cap2 n2:Nat} {l2:av} (hx:a.eval x=.slice jy n2 cap2) (hn2:l2.length=n2) (hsrc:iH w jy cap2 l2)
 (hlen:n+n2<=140737488355328) (hbase:base<=w.heap.size)
 (h:∀gW cap' w',iF w' base e gW cap' (l++l2)->w.grownBy w' (gL ao)->(gL gW=gL ao∨gL gW=some w.heap.size)->wpList P ops Q rest (a.put o.dst (.slice gW (n+n2) cap')) w'):wpList P ops Q (o::rest) a w:=by
 subst hn;subst hn2;cases jy with
 | none =>
   obtain⟨rfl,rfl⟩:=hsrc.rz;refine wpList_append_own_none hgd s x t ho base e i 1 ht hi _ l.length (jk l) hs hown hx ?_;have:=h ao cap w (by rw[bW];exact hown) ⟨rfl,rfl,rfl,aM _,fun _ _ _=>rfl⟩ (Or.inl rfl);simpa using this
 | some ad =>
   refine wpList_append_own_at w hgd s x t ho base e i (.int .u8 0) 1 1 ht hi hz hz1 hz2 rfl (by decide) _ l.length (jk l) hs hown ad l2.length cap2 (jk l2) hx (by rw[iq];omega) (fun j u hu=>?_) (wZ l2) (by unfold maxLen;omega) (by omega) hbase ?_
   . have hj:j<l2.length:=by
      have:=(aQ.1 hu).1;rwa[iq] at this
     rw[lS l2 j hj] at hu;injection hu with hu;subst hu;exact hsrc.cell j hj
   . intro v' w' hown' hg _ hat;rw[<-qA] at hown';obtain⟨gW,cap',rfl,hB⟩:=iF.of (by simp) hown';rw[gP] at hg hat;rw[gP] at hat;have:=h gW cap' w' hB hg hat;simpa using this
theorem iY {P:Program}{w:World}{ops:Array Oper}{rest:List Oper}{o:Oper}{a:Act}{Q:Exit->Act->World->Prop}(hgd:o.guard=none)(s x:Operand)(t:TypeId)
 (ho:o.op=.call { callee:=.builtin .append,args:=#[s,x],argTypes:=#[t,t] })
 (base:Nat) (e:TypeId) (i:TypeInfo) (ht:P.underlying t=some (.slice e)) (hi:P.info? e=some i) (hz:i.zero=some (.int .u8 0)) (hz1:i.size=1) (hz2:i.bytes=1)
 {ao:ak} {cap n:Nat} {l:av} (hs:a.eval s=.slice ao n cap) (hn:l.length=n) (hown:iF w base e ao cap l)
 {jy:ak} {cap2 n2:Nat} {l2:av} (hx:a.eval x=.slice jy n2 cap2) (hn2:l2.length=n2) (hsrc:iH w jy cap2 l2)
 (hlen:n+n2<=140737488355328) (hbase:base<=w.heap.size)
 (h:∀gW cap' w',iF w' base e gW cap' (l++l2)->w.grownBy w' (gL ao)->wpList P ops Q rest (a.put o.dst (.slice gW (n+n2) cap')) w'):wpList P ops Q (o::rest) a w :=
 iJ hgd s x t ho base e i ht hi hz hz1 hz2 hs hn hown hx hn2 hsrc hlen hbase (fun gW cap' w' h1 h2 _=>h gW cap' w' h1 h2)
def jo (w:World)(ao:ak)(cap n:Nat)(xs:List Value):Prop :=
 n<=cap∧(ao=none->cap=0)∧∀j u,xs[j]? = some u->∃a,ao=some a∧w.cell? (a.add j)=some u
theorem jo.cell {w:World}{a:Addr}{cap n:Nat}{xs:List Value}(h:jo w (some a) cap n xs){j:Nat}{u:Value}(hj:xs[j]? = some u):w.cell? (a.add j)=some u:=by
 obtain⟨a',e,hc⟩:=h.2.2 j u hj;injection e with e;subst e;exact hc
theorem jo.lit {w:World}{ao:ak}{cap n:Nat}{xs:List Value}(h:jo w ao cap n xs)(hl:0<xs.length):∃b o,ao=Option.some ⟨b,o,Option.none⟩∧∀j u,xs[j]? = Option.some u->w.cell? ⟨b,o+j,Option.none⟩=Option.some u:=by
 obtain⟨⟨b,o,sp⟩,rfl,h0⟩:=h.2.2 0 xs[0] (dD hl);have hs:sp=Option.none:=by simpa[Addr.add] using World.cell?_spot h0
 subst hs;refine⟨b,o,rfl,fun j u hj=>?_⟩;have:=h.cell hj;rwa[gI] at this
theorem jo.nil (w:World):jo w none 0 0 []:=⟨aM _,fun _=>rfl,fun j u hj=>by simp at hj⟩
theorem jo.move {w w':World}{ao:ak}{cap n:Nat}{xs:List Value}(h:jo w ao cap n xs)(hc:∀a,ao=Option.some a->∀v j,w.cell? (a.add j)=Option.some v->w'.cell? (a.add j)=Option.some v):jo w' ao cap n xs:=by
 refine⟨h.1,h.2.1,fun j u hj=>?_⟩;obtain⟨a,e,hv⟩:=h.2.2 j u hj;exact⟨a,e,hc a e _ j hv⟩
theorem jo.stay {w w':World}{ao:ak}{cap n:Nat}{xs:List Value}(h:jo w ao cap n xs)(hb:aj w w'):jo w' ao cap n xs :=
 h.move fun a _ v j hv=>by rw[hb.cell (gq w _ hv)];exact hv
theorem jo.grown {w w':World}{ao:ak}{cap n:Nat}{xs:List Value}{row:Option Nat}(h:jo w ao cap n xs)(hg:w.grownBy w' row)(ha:∀a,ao=Option.some a->Option.some a.block≠row):jo w' ao cap n xs :=
 h.move fun a e v j hv=>hg.cell hv (by rw[add_block];exact ha a e)
theorem jo.alloc {w:World}{ao:ak}{cap n:Nat}{xs:List Value}(h:jo w ao cap n xs)(o:Obj):jo (w.alloc o) ao cap n xs:=h.grown (gB w o none) (fun a _=>by simp)
theorem jo.made (w:World)(cs:Array Value)(n t:Nat)(fr:Nat×Nat):jo (w.alloc (.cells cs t fr)) (Option.some ⟨w.heap.size,0,Option.none⟩) n n cs.toList:=by
 refine⟨aM _,fun e=>by simp at e,fun j u hj=>⟨_,rfl,?_⟩⟩;rw[gI,World.cell?_alloc_mark,bq];simpa using hj
def gV (w:World)(base t k:Nat)(ao:ak)(cap n:Nat)(xs:List Value):Prop:=w.ownsRow base t k (.slice ao n cap) n xs
theorem gV.nil (w:World)(base t k:Nat):gV w base t k none 0 0 []:=World.ownsRow_nil _ _ _ _
theorem gV.of {w:World}{base t k n:Nat}{v:Value}{xs:List Value}(h:w.ownsRow base t k v n xs):∃ao cap,v=.slice ao n cap∧gV w base t k ao cap n xs:=by
 rcases h.2 with ⟨rfl,h0⟩ | ⟨g,cap,cur,rfl,_⟩
 . subst h0;exact⟨none,0,rfl,h⟩
 . exact⟨_,_,rfl,h⟩
theorem gV.nQ {w:World}{base t k:Nat}{ao:ak}{cap n:Nat}{xs:List Value}(h:gV w base t k ao cap n xs):jo w ao cap n xs:=by
 have hx:=h.1;rcases h.2 with ⟨e,h0⟩ | ⟨g,cap',cur,e,hg,hh,hn,hm,hs,ht⟩
 . injection e with e1 e2 e3;subst e1;subst e3;subst h0;rw[aZ] at hx;rw[dw hx];exact jo.nil w
 . injection e with e1 e2 e3;subst e1;subst e3;exact⟨hn,fun e=>by simp at e,fun j u hj=>⟨_,rfl,World.ownsRow.cells h (g:=g) rfl j u hj⟩⟩
theorem gV.block {w:World}{base t k:Nat}{ao:ak}{cap n:Nat}{xs:List Value}(h:gV w base t k ao cap n xs)(a:Addr)(e:ao=some a):base<=a.block∧a.block<w.heap.size:=by
 subst e;exact World.ownsRow.lt h a.block rfl
theorem gV.below {w w':World}{base t k:Nat}{ao:ak}{cap n:Nat}{xs:List Value}{B:Nat}(h:gV w base t k ao cap n xs)(hb:Below B w w')(ha:∀a,ao=some a->a.block<B):gV w' base t k ao cap n xs:=by
 refine⟨h.1,?_⟩;rcases h.2 with hn | ⟨g,cap',cur,e,hg,hh,r⟩
 . exact Or.inl hn
 . refine Or.inr ⟨g,cap',cur,e,hg,?_,r⟩;injection e with e1 e2 e3;rw[hb.block g (ha _ e1)];exact hh
theorem gV.stay {w w':World}{base t k:Nat}{ao:ak}{cap n:Nat}{xs:List Value}(h:gV w base t k ao cap n xs)(hb:aj w w'):gV w' base t k ao cap n xs:=h.below hb (fun a e=>(h.block a e).2)
theorem iF.stay {w w':World}{base t:Nat}{ao:ak}{cap:Nat}{l:av}(h:iF w base t ao cap l)(hb:aj w w'):iF w' base t ao cap l:=h.below hb (fun a e=>(h.block a e).2)
theorem gV.mono {w:World}{base base' t k:Nat}{ao:ak}{cap n:Nat}{xs:List Value}(h:gV w base t k ao cap n xs)(hb:base'<=base):gV w base' t k ao cap n xs:=by
 refine⟨h.1,?_⟩;rcases h.2 with hn | ⟨g,cap',cur,e,hg,r⟩
 . exact Or.inl hn
 . exact Or.inr ⟨g,cap',cur,e,by omega,r⟩
theorem gV.alloc {w:World}{base t k:Nat}{ao:ak}{cap n:Nat}{xs:List Value}(h:gV w base t k ao cap n xs)(o:Obj):gV (w.alloc o) base t k ao cap n xs:=World.ownsRow.alloc h o
theorem gT {P:Program}{w:World}{ops:Array Oper}{rest:List Oper}{o:Oper}{a:Act}{Q:Exit->Act->World->Prop}(hgd:o.guard=none)(s x:Operand)(t:TypeId)
 (ho:o.op=.call { callee:=.builtin .append,args:=#[s,x],argTypes:=#[t,t] })
 (base:Nat) (e:TypeId) (i:TypeInfo) (z:Value) (k bytes:Nat) (ht:P.underlying t=some (.slice e)) (hi:P.info? e=some i) (hz:i.zero=some z) (hz1:i.size=k) (hz2:i.bytes=bytes) (hzs:z.cells.size=k) (hk:0<k)
 {ao:ak} {cap n:Nat} {xs:List Value} (hs:a.eval s=.slice ao n cap) (hown:gV w base e k ao cap n xs)
 {jy:ak} {cap2 n2:Nat} {ys:List Value} (hx:a.eval x=.slice jy n2 cap2) (hsrc:jo w jy cap2 n2 ys) (hy:ys.length=n2*k) (h1:∀u∈ys,u.oneCell'=true)
 (hlen:n+n2<=9223372036854775807) (hby:(n+n2)*bytes<=140737488355328) (hbase:base<=w.heap.size)
 (h:∀gW cap' w',gV w' base e k gW cap' (n+n2) (xs++ys)->w.grownBy w' (gL ao)->(gL gW=gL ao∨gL gW=some w.heap.size)->wpList P ops Q rest (a.put o.dst (.slice gW (n+n2) cap')) w'):wpList P ops Q (o::rest) a w:=by
 cases jy with
 | none =>
   have hc:=hsrc.2.1 rfl;have hn:=hsrc.1;obtain rfl:n2=0:=by omega
   subst hc;rw[aZ] at hy;obtain rfl:ys=[]:=dw hy;refine wpList_append_own_none hgd s x t ho base e i k ht hi _ n xs hs hown hx ?_;have:=h ao cap w (by rw[bW];exact hown) ⟨rfl,rfl,rfl,aM _,fun _ _ _=>rfl⟩ (Or.inl rfl);simpa using this
 | some ad =>
   refine wpList_append_own_at w hgd s x t ho base e i z k bytes ht hi hz hz1 hz2 hzs hk _ n xs hs hown ad n2 cap2 ys hx hy (fun j u hu=>hsrc.cell hu) h1 (by unfold maxLen;omega) hby hbase ?_;intro v' w' hown' hg _ hat;obtain⟨gW,cap',rfl,hB⟩:=gV.of hown';rw[gP] at hg hat;rw[gP] at hat;exact h gW cap' w' hB hg hat
def oI (l:List ay):List Value:=l.map Value.string
theorem sI (l:List ay):(oI l).length=l.length:=by simp[oI]
theorem vQ (a b:List ay):oI (a++b)=oI a++oI b:=by simp[oI]
theorem zo (l:List ay)(j:Nat)(h:j<l.length):(oI l)[j]? = some (.string l[j]):=by simp[oI,h]
def gU (l:au):List Value:=l.flatMap fun p=>[.string p.1,.string p.2]
theorem mW (l:au):(gU l).length=l.length*2:=by
 induction l with
 | nil=>rfl
 | cons p t ih=>simp only[gU,aV,aW,aX,cu] at ih ⊢;omega
theorem qB (a b:au):gU (a++b)=gU a++gU b:=by simp[gU]
theorem Gv (l:au):∀u∈gU l,u.oneCell'=true:=by
 intro u hu;obtain⟨p,_,hp⟩:=List.mem_flatMap.1 hu;simp at hp;rcases hp with rfl | rfl <;> rfl
theorem nY (l:au):∀j (h:j<l.length),(gU l)[j*2]? = some (.string l[j].1)∧(gU l)[j*2+1]? = some (.string l[j].2):=by
 induction l with
 | nil=>intro j h;simp at h
 | cons p t ih =>
   intro j h;cases j with
   | zero=>exact⟨rfl,rfl⟩
   | succ j =>
     have:=ih j (by simpa using h);have e:∀q,(gU (p::t))[(q+2)]? = (gU t)[q]?:=fun q=>rfl;rw[show(j+1)*2=j*2+2 by omega,show j*2+2+1=(j*2+1)+2 by omega,e,e];simpa using this
structure iN where
 kind:Int
 method:ay
 target:ay
 minor:Int
 fields:au
 length:Int
 bytes:av
 kW:ay
 kJ:ay
 ptype:ay
 iw:av
 code:Int
structure EvS where
 fo:ak
 gM:Nat
 bo:ak
 gK:Nat
 po:ak
 jA:Nat
def iN.cells (e:iN)(s:EvS):List Value:=[.int .i64 e.kind,.string e.method,.string e.target,.int .i64 e.minor,.slice s.fo e.fields.length s.gM,.int .i64 e.length,.slice s.bo e.bytes.length s.gK,.string e.kW,.string e.kJ,.string e.ptype,.slice s.po e.iw.length s.jA,.int .i64 e.code]
structure abt (w:World)(b o:Nat)(e:iN)(s:EvS):Prop where
 at_:∀j u,(e.cells s)[j]? = some u->w.cell? ⟨b,o+j,none⟩=some u
 fields:jo w s.fo s.gM e.fields.length (gU e.fields)
 bytes:iH w s.bo s.gK e.bytes
 iw:iH w s.po s.jA e.iw
def FU (w:World)(ao:ak)(cap:Nat)(es:List iN):Prop :=
 es.length<=cap∧(ao=none->cap=0)∧∀j (hj:j<es.length),∃b o s,ao=some ⟨b,o,none⟩∧abt w b (o+j*12) es[j] s
theorem FU.nil (w:World):FU w none 0 []:=⟨aM _,fun _=>rfl,fun j hj=>by simp at hj⟩
theorem FU.lit {w:World}{ao:ak}{cap:Nat}{es:List iN}(h:FU w ao cap es)(hl:0<es.length):∃b o,ao=some ⟨b,o,none⟩∧∀j (hj:j<es.length),∃s,abt w b (o+j*12) es[j] s:=by
 obtain⟨b,o,_,rfl,_⟩:=h.2.2 0 hl;refine⟨b,o,rfl,fun j hj=>?_⟩;obtain⟨b',o',s,e,hE⟩:=h.2.2 j hj;injection e with e;injection e with e1 e2;subst e1;subst e2;exact⟨s,hE⟩
end Go.Proofs.YtjmndjmhjleabaaGreatDoor
namespace Go.Proofs.YtjmndjmhjleabaaGreatDoor
def jY (b:av):iN:=⟨2,⟨#[]⟩,⟨#[]⟩,0,[],0,b,⟨#[]⟩,⟨#[]⟩,⟨#[]⟩,[],0⟩
def tailD (l:List iN):Bool :=
 match l.getLast? with
 | some x=>decide (x.kind=2)
 | none=>false
def qR (l:List iN):av :=
 match l.getLast? with
 | some x=>x.bytes
 | none=>[]
def vM (l:List iN)(e:iN):List iN:=if e.kind=2∧tailD l=true then l.dropLast++[jY (qR l++e.bytes)] else l++[e]
def lY (l:List iN):List iN:=l.foldl vM []
def lJ:List iN->Nat
 | []=>0
 | e::r=>e.bytes.length+lJ r
theorem rM (l:List iN)(e:iN):tailD (l++[e])=decide (e.kind=2):=by unfold tailD;rw[fq];simp
theorem rO (l:List iN)(e:iN):qR (l++[e])=e.bytes:=by unfold qR;rw[fq];simp
theorem pK {l:List iN}(h:tailD l=true):∃q x,l=q++[x]∧x.kind=2:=by
 rcases bD l with rfl | ⟨q,x,rfl⟩
 . cases h
 . rw[bF,rM] at h;exact⟨q,x,by rw[bF],dn h⟩
theorem nN (q:List iN)(x e:iN)(hx:x.kind=2)(he:e.kind=2):vM (q++[x]) e=q++[jY (x.bytes++e.bytes)]:=by
 unfold vM;rw[if_pos ⟨he,by rw[rM];exact aI hx⟩,rO,fu]
theorem mJ (l:List iN)(e:iN)(h:e.kind=2->tailD l=false):vM l e=l++[e]:=by
 unfold vM;rw[if_neg (fun k=>by rw[h k.1] at k;cases k.2)]
theorem DJ (l:List iN)(e:iN):lY (l++[e])=vM (lY l) e:=by unfold lY;rw[fA];rfl
theorem mK:∀a b:List iN,lJ (a++b)=lJ a+lJ b
 | [],b=>by simp[lJ]
 | x::r,b=>by rw[dZ,lJ,lJ,mK r b];omega
theorem KE:∀(l:List iN) (e:iN),e∈l->e.bytes.length<=lJ l
 | x :: r, e, h => by
   rw[lJ];rcases fB.1 h with rfl | h
   . omega
   . have:=KE r e h;omega
theorem Jb (l:List iN):(qR l).length<=lJ l:=by
 rcases bD l with rfl | ⟨q,x,rfl⟩
 . exact aA _
 . rw[bF,rO];exact KE _ x (by simp)
theorem Vz (l:List iN)(e:iN):lJ (vM l e)=lJ l+e.bytes.length:=by
 by_cases h:e.kind=2∧tailD l=true
 . obtain⟨q,x,rfl,hx⟩:=pK h.2;rw[nN q x e hx h.1,mK,mK];simp[lJ,jY];omega
 . rw[mJ l e (fun k=>by
    cases ht:tailD l
    . rfl
    . exact absurd ⟨k,ht⟩ h),mK]
   simp[lJ]
theorem Hf (l:List iN):lJ (lY l)=lJ l:=by
 have:∀(m:List iN) (o:List iN),lJ (m.foldl vM o)=lJ o+lJ m:=by
  intro m;induction m with
  | nil=>intro o;simp[lJ]
  | cons e r ih=>intro o;rw[dQ,ih,Vz,lJ];omega
 have h:=this l [];simpa[lY,lJ] using h
theorem KF (l:List iN)(e:iN):(vM l e).length<=l.length+1:=by
 by_cases h:e.kind=2∧tailD l=true
 . obtain⟨q,x,rfl,hx⟩:=pK h.2;rw[nN q x e hx h.1];simp
 . rw[mJ l e (fun k=>by
    cases ht:tailD l
    . rfl
    . exact absurd ⟨k,ht⟩ h)]
   simp
theorem uH (l:List iN):(lY l).length<=l.length:=by
 have:∀(m:List iN) (o:List iN),(m.foldl vM o).length<=o.length+m.length:=by
  intro m;induction m with
  | nil=>intro o;simp
  | cons e r ih=>intro o;rw[dQ];have h1:=ih (vM o e);have h2:=KF o e;simp only[aX];omega
 have h:=this l [];simpa[lY] using h
theorem Ru {p:iN->Prop}(hb:∀b,p (jY b))(l:List iN)(h:∀e∈l,p e):∀e∈lY l,p e:=by
 have:∀(m:List iN) (o:List iN),(∀e∈o,p e)->(∀e∈m,p e)->∀e∈m.foldl vM o,p e:=by
  intro m;induction m with
  | nil=>intro o ho _ e he;exact ho e he
  | cons x r ih =>
    intro o ho hm;rw[dQ];refine ih (vM o x) (fun e he=>?_) (fun e he=>hm e (cO _ he));unfold vM at he;split at he
    . rcases bB.1 he with he | he
      . exact ho e (List.dropLast_subset o he)
      . rw[bC.1 he];exact hb _
    . rcases bB.1 he with he | he
      . exact ho e he
      . rw[bC.1 he];exact hm x (cK ..)
 exact this l [] (fun e he=>by cases he) h
end Go.Proofs.YtjmndjmhjleabaaGreatDoor
namespace Go.Proofs.YtjmndjmhjleabaaGreatDoor
open Go.RowKit
end Go.Proofs.YtjmndjmhjleabaaGreatDoor