/- Small texts, one behind the other: Foot, MemO, MemA, MemC, MemJ. -/
import Derived.Test.YtjmndjmhjleabaaGreatDoorPk1
import Derived.Deep.OwnRows
import Derived.Laws.OwnMore
import Derived.Test.YtjmndjmhjleabaaGreatDoorPk9
namespace Go.Proofs.YtjmndjmhjleabaaGreatDoor
open Go.RowKit
theorem fB {w:World}{g:Nat}{cs:Array Value}{t:Nat}{fr:Nat×Nat}{base e size:Nat}{v:Value}{n:Nat}{xs:List Value}(hg:w.heap[g]? = some (.cells cs t fr))(h:w.ownsRow base e size v n xs)(hne:t≠e):v.ownBlock≠some g:=by
 rcases h.2 with ⟨rfl,_⟩ | ⟨g',cap,cur,rfl,_,hg',_⟩
 . simp[Value.ownBlock]
 . intro e;simp[Value.ownBlock] at e;subst e;rw[hg] at hg';injection hg' with hg';injection hg' with _ e _;exact hne e
theorem Ae {w:World}{g b:Nat}{cs:Array Value}{t e:Nat}{fr:Nat×Nat}{n:Nat}{f:Nat->Value}(hg:w.heap[g]? = some (.cells cs t fr))(h:w.rowIs b e n f)(hne:t≠e):b≠g:=by
 rintro rfl;obtain⟨c,hc,_⟩:=h;rw[hg] at hc;injection hc with hc;injection hc with _ e' _;exact hne e'
structure Turns (S:Nat->Prop)(w w':World):Prop where
 os:w'.os=w.os
 tape:w'.tape=w.tape
 output:w'.output=w.output
 size:w.heap.size<=w'.heap.size
 block:∀k,k<w.heap.size->¬S k->w'.heap[k]? = w.heap[k]?
def av (S:Nat->Prop)(w:World):Nat->Prop:=fun k=>S k∨w.heap.size<=k
section
variable {S S':Nat->Prop} {w w1 w':World}
theorem Turns.refl (S:Nat->Prop)(w:World):Turns S w w:=⟨rfl,rfl,rfl,Nat.le_refl _,fun _ _ _=>rfl⟩
theorem Turns.mono (h:Turns S w w')(hs:∀k,S k->S' k):Turns S' w w':=⟨h.os,h.tape,h.output,h.size,fun k hk hn=>h.block k hk (fun e=>hn (hs k e))⟩
theorem Turns.trans (h:Turns S w w1)(k:Turns S' w1 w')(hs:∀i,S' i->i<w.heap.size->S i):Turns S w w' :=
 ⟨k.os.trans h.os,k.tape.trans h.tape,k.output.trans h.output,Nat.le_trans h.size k.size,fun i hi hn=>(k.block i (Nat.lt_of_lt_of_le hi h.size) (fun e=>hn (hs i e hi))).trans (h.block i hi hn)⟩
theorem Turns.then_ (h:Turns S w w1)(k:Turns (av S w) w1 w'):Turns S w w':=h.trans k (fun i e hi=>by
 rcases e with e | e
 . exact e
 . omega)
theorem Turns.bI {row:Option Nat}(h:w.grownBy w' row)(hr:∀k,row=some k->S k):Turns S w w':=⟨h.os,h.tape,h.output,h.size,fun k hk hn=>h.block k hk (fun e=>hn (hr k e.symm))⟩
theorem Turns.of_below (h:Below w.heap.size w w'):Turns S w w':=⟨h.os,h.tape,h.output,h.size,fun k hk _=>h.block k hk⟩
theorem Turns.drewN (S:Nat->Prop)(w:World)(n:Nat):Turns S w (w.drewN n):=⟨rfl,rfl,rfl,Nat.le_refl _,fun _ _ _=>rfl⟩
theorem Turns.setCell (S:Nat->Prop)(w:World)(a:Addr)(v:Value)(h:S a.block):Turns S w (w.setCell a v):=⟨rfl,rfl,rfl,by simp[World.setCell],fun k _ hn=>heap_setCell_other w a k v (fun e=>hn (by rw[e];exact h))⟩
theorem Turns.below {B:Nat}(h:Turns S w w')(hs:∀k,S k->B<=k)(hB:B<=w.heap.size):Below B w w':=⟨h.os,h.tape,h.output,h.size,fun k hk=>h.block k (by omega) (fun e=>by have:=hs k e;omega)⟩
theorem Turns.row (h:Turns S w w'){k:Nat}{o:Obj}(hk:w.heap[k]? = some o)(hn:¬S k):w'.heap[k]? = some o:=(h.block k (Array.getElem?_eq_some_iff.1 hk).1 hn).trans hk
theorem aT.turns {base t:Nat}{ao:Option Addr}{cap:Nat}{l:List UInt8}(h:aT w base t ao cap l)(ht:Turns S w w')(ha:∀a,ao=some a->¬S a.block):aT w' base t ao cap l:=by
 refine⟨h.1,?_⟩;rcases h.2 with hn | ⟨g,cap',cur,e,hg,hh,r⟩
 . exact Or.inl hn
 . refine Or.inr ⟨g,cap',cur,e,hg,?_,r⟩;injection e with e1 e2 e3;exact ht.row hh (ha _ e1)
theorem aC.turns {base t k:Nat}{ao:Option Addr}{cap n:Nat}{xs:List Value}(h:aC w base t k ao cap n xs)(ht:Turns S w w')(ha:∀a,ao=some a->¬S a.block):aC w' base t k ao cap n xs:=by
 refine⟨h.1,?_⟩;rcases h.2 with hn | ⟨g,cap',cur,e,hg,hh,r⟩
 . exact Or.inl hn
 . refine Or.inr ⟨g,cap',cur,e,hg,?_,r⟩;injection e with e1 e2 e3;exact ht.row hh (ha _ e1)
theorem aU.turns {ao:Option Addr}{cap:Nat}{l:List UInt8}(h:aU w ao cap l)(ht:Turns S w w')(ha:∀a,ao=Option.some a->¬S a.block):aU w' ao cap l :=
 h.move fun a e v j hv=>by
  have hb:=ht.block (a.add j).block (World.block_lt_of_cell? w _ hv) (by rw[add_block];exact ha a e);rw[World.cell?_of_block hb];exact hv
theorem cu.turns {ao:Option Addr}{cap n:Nat}{xs:List Value}(h:cu w ao cap n xs)(ht:Turns S w w')(ha:∀a,ao=Option.some a->¬S a.block):cu w' ao cap n xs :=
 h.move fun a e v j hv=>by
  have hb:=ht.block (a.add j).block (World.block_lt_of_cell? w _ hv) (by rw[add_block];exact ha a e);rw[World.cell?_of_block hb];exact hv
end
structure iJ (w:World)(S:Nat->Prop)(ao:Option Addr)(cap n:Nat)(xs:List Value):Prop where
 is:cu w ao cap n xs
 mem:xs≠[]->∀a,ao=some a->S a.block
structure eX (w:World)(S:Nat->Prop)(ao:Option Addr)(cap:Nat)(l:List UInt8):Prop where
 is:aU w ao cap l
 mem:l≠[]->∀a,ao=some a->S a.block
def aF (w:World)(S:Nat->Prop)(t:Nat)(ao:Option Addr)(cap:Nat)(l:List UInt8):Prop :=
 (l≠[]∧aT w 0 t ao cap l∧∀a,ao=some a->S a.block)∨(l=[]∧cap=0)
section
variable {w w':World} {S S':Nat->Prop} {t:Nat} {ao:Option Addr} {cap n:Nat} {xs:List Value} {l:List UInt8}
theorem iJ.nil (w:World)(S:Nat->Prop):iJ w S none 0 0 []:=⟨cu.nil w,fun e=>absurd rfl e⟩
theorem eX.nil (w:World)(S:Nat->Prop):eX w S none 0 []:=⟨aU.nil w,fun e=>absurd rfl e⟩
theorem aF.nil (w:World)(S:Nat->Prop)(t:Nat):aF w S t none 0 []:=Or.inr ⟨rfl,rfl⟩
theorem iJ.mono (h:iJ w S ao cap n xs)(hs:∀k,k<w.heap.size->S k->S' k):iJ w S' ao cap n xs:=⟨h.is,fun hx a e=>by
 refine hs _ ?_ (h.mem hx a e);subst e;cases xs with
 | nil=>exact absurd rfl hx
 | cons u r =>
   have:=World.block_lt_of_cell? w _ (h.is.cell (j:=0) rfl);rwa[add_block] at this⟩
theorem eX.mono (h:eX w S ao cap l)(hs:∀k,k<w.heap.size->S k->S' k):eX w S' ao cap l:=⟨h.is,fun hx a e=>by
 refine hs _ ?_ (h.mem hx a e);subst e;cases l with
 | nil=>exact absurd rfl hx
 | cons u r =>
   have:=World.block_lt_of_cell? w _ (h.is.cell 0 (by simp));rwa[add_block] at this⟩
theorem aF.mono (h:aF w S t ao cap l)(hs:∀k,k<w.heap.size->S k->S' k):aF w S' t ao cap l:=by
 rcases h with ⟨h1,h2,h3⟩ | h
 . exact Or.inl ⟨h1,h2,fun a e=>hs _ (h2.block a e).2 (h3 a e)⟩
 . exact Or.inr h
theorem cu.empty (w:World)(h:cu w' ao cap n []):cu w ao cap n []:=⟨h.1,h.2.1,fun j u hj=>by simp at hj⟩
theorem aU.empty (w:World)(h:aU w' ao cap []):aU w ao cap []:=⟨h.1,h.2.1,fun j hj=>by simp at hj⟩
theorem iJ.turns (h:iJ w S ao cap n xs)(ht:Turns S' w w')(hs:∀k,S k->¬S' k):iJ w' S ao cap n xs:=by
 refine⟨?_,h.mem⟩;by_cases hx:xs=[]
 . subst hx;exact cu.empty w' h.is
 . exact h.is.turns ht (fun a e=>hs _ (h.mem hx a e))
theorem eX.turns (h:eX w S ao cap l)(ht:Turns S' w w')(hs:∀k,S k->¬S' k):eX w' S ao cap l:=by
 refine⟨?_,h.mem⟩;by_cases hx:l=[]
 . subst hx;exact aU.empty w' h.is
 . exact h.is.turns ht (fun a e=>hs _ (h.mem hx a e))
theorem aF.turns (h:aF w S t ao cap l)(ht:Turns S' w w')(hs:∀k,S k->¬S' k):aF w' S t ao cap l:=by
 rcases h with ⟨h1,h2,h3⟩ | h
 . exact Or.inl ⟨h1,h2.turns ht (fun a e=>hs _ (h3 a e)),h3⟩
 . exact Or.inr h
theorem aF.qc (h:aF w S t ao cap l):aU w ao cap l:=by
 rcases h with ⟨_,h2,_⟩ | ⟨rfl,rfl⟩
 . exact h2.qc
 . exact⟨Nat.le_refl _,fun _=>rfl,fun j hj=>by simp at hj⟩
theorem aF.WU (h:aF w S t ao cap l):eX w S ao cap l:=⟨h.qc,fun hl a e=>by
 rcases h with ⟨_,_,h3⟩ | ⟨h1,_⟩
 . exact h3 a e
 . exact absurd h1 hl⟩
end
structure vS (w:World)(S:Nat->Prop)(e:aZ)(s:EvS):Prop where
 fields:iJ w S s.fo s.ak e.fields.length (aB e.fields)
 bytes:eX w S s.bo s.aj e.bytes
 aH:eX w S s.po s.bS e.aH
theorem vS.mono {w:World}{S S':Nat->Prop}{e:aZ}{s:EvS}(h:vS w S e s)(hs:∀k,k<w.heap.size->S k->S' k):vS w S' e s:=⟨h.fields.mono hs,h.bytes.mono hs,h.aH.mono hs⟩
theorem vS.turns {w w':World}{S S':Nat->Prop}{e:aZ}{s:EvS}(h:vS w S e s)(ht:Turns S' w w')(hs:∀k,S k->¬S' k):vS w' S e s:=⟨h.fields.turns ht hs,h.bytes.turns ht hs,h.aH.turns ht hs⟩
def bJ (ps:List (aZ×EvS)):List Value:=ps.flatMap fun p=>p.1.cells p.2
theorem iK (ps:List (aZ×EvS)):(bJ ps).length=ps.length*12:=by
 induction ps with
 | nil=>rfl
 | cons p t ih =>
   have e:(p.1.cells p.2).length=12:=rfl;simp only[bJ,List.flatMap_cons,List.length_append,List.length_cons] at ih ⊢;rw[ih,e];omega
theorem iL (a b:List (aZ×EvS)):bJ (a++b)=bJ a++bJ b:=by simp[bJ]
theorem cells_one (e:aZ)(s:EvS):∀u∈e.cells s,u.oneCell'=true:=by
 intro u hu;simp only[aZ.cells,List.mem_cons,List.not_mem_nil,or_false] at hu;rcases hu with rfl | rfl | rfl | rfl | rfl | rfl | rfl | rfl | rfl | rfl | rfl | rfl <;> rfl
theorem lZ:∀(ps:List (aZ×EvS)) (i:Nat) (hi:i<ps.length) (j:Nat),j<12->(bJ ps)[i*12+j]? = (ps[i].1.cells ps[i].2)[j]?
 | p :: t, 0, _, j, hj => by
   show(p.1.cells p.2++bJ t)[0*12+j]? = _;rw[List.getElem?_append_left (by rw[show(p.1.cells p.2).length=12 from rfl];omega),Nat.zero_mul,Nat.zero_add];rfl
 | p :: t, i + 1, hi, j, hj => by
   show(p.1.cells p.2++bJ t)[(i+1)*12+j]? = _;rw[List.getElem?_append_right (by rw[show(p.1.cells p.2).length=12 from rfl];omega),show(p.1.cells p.2).length=12 from rfl,show(i+1)*12+j-12=i*12+j by omega];exact lZ t i (by simpa using hi) j hj
theorem aZ.made (e:aZ)(s:EvS)(W:World)(t:Nat)(fr:Nat×Nat){k:Nat}(hk:W.heap.size=k):cu (W.alloc (.cells #[.int .i64 e.kind,.string e.method,.string e.target,.int .i64 e.minor,.slice s.fo e.fields.length s.ak,.int .i64 e.length,.slice s.bo e.bytes.length s.aj,.string e.dX,.string e.dO,.string e.ptype,.slice s.po e.aH.length s.bS,.int .i64 e.code] t fr)) (some ⟨k,0,none⟩) 1 1 (e.cells s):=by
 subst hk;exact cu.made W _ 1 t fr
def lastB (e:aZ)(s:EvS):Option Nat:=if e.bytes=[] then none else au s.bo
inductive dh (w:World)(S:Nat->Prop)(tE tb:Nat):Option Addr->Nat->List aZ->Prop
 | bare:dh w S tE tb none 0 []
 | laid (q:List (aZ×EvS)) (e:aZ) (s:EvS) (g cap:Nat) (own:aC w 0 tE 12 (some ⟨g,0,none⟩) cap (q.length+1) (bJ (q++[(e,s)]))) (mem:S g)
  (ahead:∀p∈q,vS w (fun k=>(S k∧k≠g)∧lastB e s≠some k) p.1 p.2)
  (fields:iJ w (fun k=>(S k∧k≠g)∧lastB e s≠some k) s.fo s.ak e.fields.length (aB e.fields))
  (aH:eX w (fun k=>(S k∧k≠g)∧lastB e s≠some k) s.po s.bS e.aH)
  (bytes:aF w (fun k=>S k∧k≠g) tb s.bo s.aj e.bytes):dh w S tE tb (some ⟨g,0,none⟩) cap (q.map (·.1)++[e])
section
variable {w w':World} {S S':Nat->Prop} {tE tb:Nat} {ao:Option Addr} {cap:Nat} {es:List aZ}
theorem dh.turns (h:dh w S tE tb ao cap es)(ht:Turns S' w w')(hs:∀k,S k->¬S' k):dh w' S tE tb ao cap es:=by
 cases h with
 | bare=>exact .bare
 | laid q e s g cap own mem ahead fields aH bytes =>
   exact .laid q e s g cap (own.turns ht (fun a e=>by injection e with e;subst e;exact hs _ mem)) mem (fun p hp=>(ahead p hp).turns ht (fun k e=>hs k e.1.1)) (fields.turns ht (fun k e=>hs k e.1.1)) (aH.turns ht (fun k e=>hs k e.1.1)) (bytes.turns ht (fun k e=>hs k e.1))
theorem dh.mono (h:dh w S tE tb ao cap es)(hs:∀k,k<w.heap.size->S k->S' k):dh w S' tE tb ao cap es:=by
 cases h with
 | bare=>exact .bare
 | laid q e s g cap own mem ahead fields aH bytes =>
   have hs2:∀k,k<w.heap.size->((S k∧k≠g)∧lastB e s≠Option.some k)->((S' k∧k≠g)∧lastB e s≠Option.some k):=fun k hk e=>⟨⟨hs k hk e.1.1,e.1.2⟩,e.2⟩;exact .laid q e s g cap own (hs g (own.block _ rfl).2 mem) (fun p hp=>(ahead p hp).mono hs2) (fields.mono hs2) (aH.mono hs2) (bytes.mono (fun k hk e=>⟨hs k hk e.1,e.2⟩))
theorem dh.stay (h:dh w S tE tb ao cap es)(hb:Below w.heap.size w w'):dh w' S tE tb ao cap es:=h.turns (Turns.of_below (S:=fun _=>False) hb) (fun _ _ e=>e)
theorem dh.own (h:dh w S tE tb ao cap es):∃ps:List (aZ×EvS),ps.map (·.1)=es∧aC w 0 tE 12 ao cap es.length (bJ ps)∧(∀a,ao=some a->S a.block)∧∀p∈ps,vS w (fun k=>S k∧au ao≠some k) p.1 p.2:=by
 cases h with
 | bare=>exact⟨[],rfl,aC.nil _ _ _ _,fun a e=>(by cases e),fun p hp=>(by cases hp)⟩
 | laid q e s g cap own mem ahead fields aH bytes =>
   refine⟨q++[(e,s)],by simp,by simpa using own,fun a e=>(by injection e with e;subst e;exact mem),fun p hp=>?_⟩;have hc:∀k,k<w.heap.size->((S k∧k≠g)∧lastB e s≠Option.some k)->(S k∧au (Option.some ⟨g,0,Option.none⟩)≠Option.some k):=fun k _ e=>⟨e.1.1,fun e2=>by injection e2 with e2;exact e.1.2 e2.symm⟩;rcases List.mem_append.1 hp with hp | hp
   . exact(ahead p hp).mono hc
   . simp at hp;subst hp;exact⟨fields.mono hc,bytes.WU.mono (fun k _ e=>⟨e.1,fun e2=>by injection e2 with e2;exact e.2 e2.symm⟩),aH.mono hc⟩
theorem dh.last {q:List aZ}{x:aZ}(h:dh w S tE tb ao cap es)(he:es=q++[x]):∃(qs:List (aZ×EvS)) (s:EvS) (g:Nat),qs.map (·.1)=q∧ao=some ⟨g,0,none⟩ ∧
 aC w 0 tE 12 (some ⟨g,0,none⟩) cap (qs.length+1) (bJ (qs++[(x,s)]))∧S g∧(∀p∈qs,vS w (fun k=>(S k∧k≠g)∧lastB x s≠some k) p.1 p.2) ∧
 iJ w (fun k=>(S k∧k≠g)∧lastB x s≠some k) s.fo s.ak x.fields.length (aB x.fields)∧eX w (fun k=>(S k∧k≠g)∧lastB x s≠some k) s.po s.bS x.aH∧aF w (fun k=>S k∧k≠g) tb s.bo s.aj x.bytes:=by
 cases h with
 | bare=>simp at he
 | laid qs e s g cap own mem ahead fields aH bytes =>
   obtain⟨h1,h2⟩:=List.append_inj' he rfl;injection h2 with h2 _;subst h2;exact⟨qs,s,g,h1,rfl,own,mem,ahead,fields,aH,bytes⟩
theorem dh.more {N:Nat->Prop}{ps:List (aZ×EvS)}{aD:Option Addr}{cap' n:Nat}{e:aZ}{s:EvS}
 (hA:∀a,ao=some a->S a.block) (hI:∀p∈ps,vS w (fun k=>S k∧au ao≠some k) p.1 p.2)
 (hf:iJ w (fun k=>N k∧lastB e s≠some k) s.fo s.ak e.fields.length (aB e.fields)) (hp:eX w (fun k=>N k∧lastB e s≠some k) s.po s.bS e.aH) (hb:aF w N tb s.bo s.aj e.bytes)
 (hN:∀k,S k->¬N k) (hO:aC w' 0 tE 12 aD cap' n (bJ (ps++[(e,s)]))) (hn:n=ps.length+1)
 (hG:w.grownBy w' (au ao)) (hat:au aD=au ao∨au aD=some w.heap.size) :
 dh w' (fun k=>S k∨N k∨k=w.heap.size) tE tb aD cap' (ps.map (·.1)++[e]):=by
 subst hn;have hT:Turns (fun k=>au ao=some k) w w':=Turns.bI hG (fun k e=>e);have M4:∀k,au ao=some k->S k:=fun k e=>by
  cases ao with
  | none=>cases e
  | some a=>injection e with e;subst e;exact hA a rfl
 obtain⟨g,rfl⟩:∃g,aD=some ⟨g,0,none⟩:=by
  rcases hO.2 with ⟨_,h⟩ | ⟨g,cap,cur,h,_⟩
  . omega
  . injection h with h _ _;exact⟨g,h⟩
 have hg:au ao=some g∨g=w.heap.size:=by
  rcases hat with h | h
  . exact Or.inl h.symm
  . injection h with h;exact Or.inr h
 have hlast:∀k,lastB e s=some k->N k:=fun k h=>by
  unfold lastB at h;split at h
  . cases h
  . rcases hb with ⟨_,_,h3⟩ | ⟨h1,_⟩
    . cases kH:s.bo with
      | none=>rw[kH] at h;cases h
      | some a=>rw[kH] at h;injection h with h;subst h;exact h3 a kH
    . contradiction
 have M5:∀k,k<w.heap.size->N k->k≠g:=fun k hk hNk e=>by
  subst e;rcases hg with h | h
  . exact hN k (M4 k h) hNk
  . omega
 refine .laid ps e s g cap' hO ?_ (fun p hp=>?_) ?_ ?_ ?_
 . rcases hg with h | h
   . exact Or.inl (M4 g h)
   . exact Or.inr (Or.inr h)
 . refine((hI p hp).mono (S':=fun k=>((S k∨N k∨k=w.heap.size)∧k≠g)∧lastB e s≠some k∧au ao≠some k) (fun k hk h=>⟨⟨Or.inl h.1,fun e=>?_⟩,fun e2=>hN k h.1 (hlast k e2),h.2⟩) |>.turns hT (fun k h=>h.2.2)).mono (fun k _ h=>⟨h.1,h.2.1⟩);subst e;rcases hg with h2 | h2
   . exact h.2 h2
   . omega
 . exact(hf.mono (S':=fun k=>((S k∨N k∨k=w.heap.size)∧k≠g)∧lastB e s≠some k∧N k) (fun k hk h=>⟨⟨Or.inr (Or.inl h.1),M5 k hk h.1⟩,h.2,h.1⟩) |>.turns hT (fun k h e2=>hN k (M4 k e2) h.2.2)).mono (fun k _ h=>⟨h.1,h.2.1⟩)
 . exact(hp.mono (S':=fun k=>((S k∨N k∨k=w.heap.size)∧k≠g)∧lastB e s≠some k∧N k) (fun k hk h=>⟨⟨Or.inr (Or.inl h.1),M5 k hk h.1⟩,h.2,h.1⟩) |>.turns hT (fun k h e2=>hN k (M4 k e2) h.2.2)).mono (fun k _ h=>⟨h.1,h.2.1⟩)
 . exact(hb.mono (S':=fun k=>((S k∨N k∨k=w.heap.size)∧k≠g)∧N k) (fun k hk h=>⟨⟨Or.inr (Or.inl h),M5 k hk h⟩,h⟩) |>.turns hT (fun k h e2=>hN k (M4 k e2) h.2)).mono (fun k _ h=>h.1)
end
def iA (w:World)(S:Nat->Prop)(tE:Nat)(ao:Option Addr)(cap:Nat)(es:List aZ):Prop :=
 ∃ps:List (aZ×EvS),ps.map (·.1)=es∧aC w 0 tE 12 ao cap es.length (bJ ps)∧(∀a,ao=some a->S a.block)∧∀p∈ps,vS w (fun k=>S k∧au ao≠some k) p.1 p.2
section
variable {w w':World} {S S' N:Nat->Prop} {tE tb:Nat} {ao dN aD:Option Addr} {cap cap2 cap' n:Nat} {es es2:List aZ}
theorem dh.all (h:dh w S tE tb ao cap es):iA w S tE ao cap es:=h.own
theorem iA.turns (h:iA w S tE ao cap es)(ht:Turns S' w w')(hs:∀k,S k->¬S' k):iA w' S tE ao cap es:=by
 obtain⟨ps,h1,h2,h3,h4⟩:=h;exact⟨ps,h1,h2.turns ht (fun a e=>hs _ (h3 a e)),h3,fun p hp=>(h4 p hp).turns ht (fun k e=>hs k e.1)⟩
theorem iA.mono (h:iA w S tE ao cap es)(hs:∀k,k<w.heap.size->S k->S' k):iA w S' tE ao cap es:=by
 obtain⟨ps,h1,h2,h3,h4⟩:=h;exact⟨ps,h1,h2,fun a e=>hs _ (h2.block a e).2 (h3 a e),fun p hp=>(h4 p hp).mono (fun k hk e=>⟨hs k hk e.1,e.2⟩)⟩
theorem iA.Zw (h:iA w S tE ao cap es):Zv w ao cap es:=by
 obtain⟨ps,rfl,hO,_,hI⟩:=h;have hv:=hO.lQ;refine⟨hv.1,hv.2.1,fun j hj=>?_⟩;have hj':j<ps.length:=by simpa using hj
 have h0:0<(bJ ps).length:=by rw[iK];omega
 obtain⟨b,o,rfl,hc⟩:=hv.lit h0;refine⟨b,o,ps[j].2,rfl,?_⟩;rw[List.getElem_map];have hin:=hI _ (List.getElem_mem hj');refine⟨fun i u hi=>?_,hin.fields.is,hin.bytes.is,hin.aH.is⟩;have hl:i<12:=(List.getElem?_eq_some_iff.1 hi).1;rw[<-lZ _ j hj' i hl] at hi;have:=hc _ _ hi;rw[Nat.add_assoc];exact this
theorem iA.more {ps ps2:List (aZ×EvS)}(h3:∀a,ao=some a->S a.block)(h4:∀p∈ps,vS w (fun k=>S k∧au ao≠some k) p.1 p.2)(g4:∀p∈ps2,vS w N p.1 p.2)(hN:∀k,S k->¬N k)
 (hO:aC w' 0 tE 12 aD cap' n (bJ ps++bJ ps2)) (hn:n=ps.length+ps2.length) (hG:w.grownBy w' (au ao)) (hat:au aD=au ao∨au aD=some w.heap.size) :
 iA w' (fun k=>S k∨N k∨k=w.heap.size) tE aD cap' (ps.map (·.1)++ps2.map (·.1)):=by
 subst hn;have hT:Turns (fun k=>au ao=some k) w w':=Turns.bI hG (fun k e=>e);have hne:∀k,k<w.heap.size->au ao≠some k->au aD≠some k:=fun k hk h e=>by
  rcases hat with g | g
  . rw[g] at e;exact h e
  . rw[g] at e;injection e with e;omega
 refine⟨ps++ps2,by simp,?_,fun a e=>?_,fun p hp=>?_⟩
 . rw[iL];simpa using hO
 . subst e;rcases hat with g | g
   . cases ao with
     | none=>simp[au] at g
     | some a0=>simp only[au,Option.some.injEq] at g;rw[g];exact Or.inl (h3 a0 rfl)
   . simp only[au,Option.some.injEq] at g;exact Or.inr (Or.inr g)
 . rcases List.mem_append.1 hp with hp | hp
   . exact((h4 p hp).mono (S':=fun k=>(S k∧au ao≠some k)∧k<w.heap.size) (fun k hk e=>⟨e,hk⟩)).turns hT (fun k e=>e.1.2) |>.mono (fun k _ e=>⟨Or.inl e.1.1,hne k e.2 e.1.2⟩)
   . have hno:∀k,N k->au ao≠some k:=fun k hk e=>by
      cases ao with
      | none=>simp[au] at e
      | some a0=>simp only[au,Option.some.injEq] at e;exact hN _ (h3 a0 rfl) (e▸hk)
     exact((g4 p hp).mono (S':=fun k=>N k∧k<w.heap.size) (fun k hk e=>⟨e,hk⟩)).turns hT (fun k e=>hno k e.1) |>.mono (fun k _ e=>⟨Or.inr (Or.inl e.1),hne k e.2 (hno k e.1)⟩)
end
def jy (w:World)(S:Nat->Prop)(tE:Nat)(ao:Option Addr)(cap:Nat)(es:List aZ):Prop :=
 ∃ps:List (aZ×EvS),ps.map (·.1)=es∧aC w 0 tE 12 ao cap es.length (bJ ps)∧(∀a,ao=some a->S a.block)∧(∀p∈ps,vS w (fun k=>S k∧au ao≠some k) p.1 p.2)∧∀p∈ps,p.2.po=none∧p.2.bS=0
section
variable {w w':World} {S S' N:Nat->Prop} {tE:Nat} {ao aD:Option Addr} {cap cap' n:Nat} {es:List aZ}
theorem jy.all (h:jy w S tE ao cap es):iA w S tE ao cap es:=by
 obtain⟨ps,h1,h2,h3,h4,_⟩:=h;exact⟨ps,h1,h2,h3,h4⟩
theorem jy.nil (w:World)(S:Nat->Prop)(tE:Nat):jy w S tE none 0 []:=⟨[],rfl,aC.nil _ _ _ _,fun a e=>(by cases e),fun p hp=>(by cases hp),fun p hp=>(by cases hp)⟩
theorem jy.turns (h:jy w S tE ao cap es)(ht:Turns S' w w')(hs:∀k,S k->¬S' k):jy w' S tE ao cap es:=by
 obtain⟨ps,h1,h2,h3,h4,h5⟩:=h;exact⟨ps,h1,h2.turns ht (fun a e=>hs _ (h3 a e)),h3,fun p hp=>(h4 p hp).turns ht (fun k e=>hs k e.1),h5⟩
theorem jy.mono (h:jy w S tE ao cap es)(hs:∀k,k<w.heap.size->S k->S' k):jy w S' tE ao cap es:=by
 obtain⟨ps,h1,h2,h3,h4,h5⟩:=h;exact⟨ps,h1,h2,fun a e=>hs _ (h2.block a e).2 (h3 a e),fun p hp=>(h4 p hp).mono (fun k hk e=>⟨hs k hk e.1,e.2⟩),h5⟩
theorem jy.more {ps ps2:List (aZ×EvS)}(h3:∀a,ao=some a->S a.block)(h4:∀p∈ps,vS w (fun k=>S k∧au ao≠some k) p.1 p.2)(g4:∀p∈ps2,vS w N p.1 p.2)(hN:∀k,S k->¬N k)
 (hO:aC w' 0 tE 12 aD cap' n (bJ ps++bJ ps2)) (hn:n=ps.length+ps2.length) (hG:w.grownBy w' (au ao)) (hat:au aD=au ao∨au aD=some w.heap.size) (h5:∀p∈ps,p.2.po=none∧p.2.bS=0) (g5:∀p∈ps2,p.2.po=none∧p.2.bS=0) :
 jy w' (fun k=>S k∨N k∨k=w.heap.size) tE aD cap' (ps.map (·.1)++ps2.map (·.1)):=by
 subst hn;have hT:Turns (fun k=>au ao=some k) w w':=Turns.bI hG (fun k e=>e);have hne:∀k,k<w.heap.size->au ao≠some k->au aD≠some k:=fun k hk h e=>by
  rcases hat with g | g
  . rw[g] at e;exact h e
  . rw[g] at e;injection e with e;omega
 refine⟨ps++ps2,by simp,?_,fun a e=>?_,fun p hp=>?_,fun p hp=>(List.mem_append.1 hp).elim (h5 p) (g5 p)⟩
 . rw[iL];simpa using hO
 . subst e;rcases hat with g | g
   . cases ao with
     | none=>simp[au] at g
     | some a0=>simp only[au,Option.some.injEq] at g;rw[g];exact Or.inl (h3 a0 rfl)
   . simp only[au,Option.some.injEq] at g;exact Or.inr (Or.inr g)
 . rcases List.mem_append.1 hp with hp | hp
   . exact((h4 p hp).mono (S':=fun k=>(S k∧au ao≠some k)∧k<w.heap.size) (fun k hk e=>⟨e,hk⟩)).turns hT (fun k e=>e.1.2) |>.mono (fun k _ e=>⟨Or.inl e.1.1,hne k e.2 e.1.2⟩)
   . have hno:∀k,N k->au ao≠some k:=fun k hk e=>by
      cases ao with
      | none=>simp[au] at e
      | some a0=>simp only[au,Option.some.injEq] at e;exact hN _ (h3 a0 rfl) (e▸hk)
     exact((g4 p hp).mono (S':=fun k=>N k∧k<w.heap.size) (fun k hk e=>⟨e,hk⟩)).turns hT (fun k e=>hno k e.1) |>.mono (fun k _ e=>⟨Or.inr (Or.inl e.1),hne k e.2 (hno k e.1)⟩)
end
abbrev Ob:=World->(Nat->Prop)->Prop
structure fI (X:Ob):Prop where
 turns:∀{w w':World} {S S':Nat->Prop},X w S->Turns S' w w'->(∀k,S k->¬S' k)->X w' S
 mono:∀{w:World} {S S':Nat->Prop},X w S->(∀k,k<w.heap.size->S k->S' k)->X w S'
theorem fI.gV:fI (fun _ _=>True):=⟨fun _ _ _=>trivial,fun _ _=>trivial⟩
section
variable {C:Type} {κ:Nat->C} {w w':World} {X X':C->Ob} {c:C}
def bE (κ:Nat->C)(n:Nat)(c:C):Nat->C:=fun k=>if k<n then κ k else c
theorem bD {n k:Nat}(h:k<n):bE κ n c k=κ k:=if_pos h
theorem j4 {n k:Nat}(h:n<=k):bE κ n c k=c:=if_neg (by omega)
def Held (X:C->Ob)(κ:Nat->C)(w:World):Prop:=∀d,X d w (fun k=>κ k=d)
theorem Held.stay (L:∀d,fI (X d))(h:Held X κ w)(hb:Below w.heap.size w w'):Held X κ w':=fun d=>(L d).turns (h d) (Turns.of_below (S:=fun _=>False) hb) (fun _ _ e=>e)
theorem Held.act (L:∀d,fI (X d))(h:Held X κ w){T N:Nat->Prop}(ht:Turns T w w')(hT:∀k,T k->κ k=c)(LY:fI (X' c))(hY:X' c w' N)(hN:∀k,N k->κ k=c∨w.heap.size<=k)(hX:∀d,d≠c->X' d=X d):Held X' (bE κ w.heap.size c) w':=by
 intro d;by_cases hd:d=c
 . subst hd;refine LY.mono hY (fun k _ e=>?_);show bE κ w.heap.size d k=d;rcases Nat.lt_or_ge k w.heap.size with hk | hk
   . rw[bD hk];rcases hN k e with e | e
     . exact e
     . omega
   . exact j4 hk
 . rw[hX d hd];have h1:=(L d).mono (h d) (S':=fun k=>κ k=d∧k<w.heap.size) (fun k hk e=>⟨e,hk⟩);have h2:=(L d).turns h1 ht (fun k e e2=>hd (e.1.symm.trans (hT k e2)));exact(L d).mono h2 (fun k _ e=>by show bE κ w.heap.size c k=d;rw[bD e.2];exact e.1)
open Classical in
theorem Held.split (L:∀d,fI (X d))(h:Held X κ w){p e:C}(hpe:p≠e){T P E:Nat->Prop}(ht:Turns T w w')(hT:∀k,T k->κ k=p)(hP:X' p w' P)(LP:fI (X' p))(hd:∀k,P k->¬E k)(iP:∀k,P k->κ k=p∨w.heap.size<=k)(iE:∀k,E k->κ k=p∨w.heap.size<=k)
 (hE:∀S:Nat->Prop,X e w' (fun k=>κ k=e∧k<w.heap.size)->(∀k,κ k=e∧k<w.heap.size->S k)->(∀k,E k->S k)->X' e w' S) (hX:∀d,d≠p->d≠e->X' d=X d) :
 ∃CV,Held X' CV w'∧(∀k,k<w.heap.size->CV k=κ k∨(κ k=p∧CV k=e))∧∀k,w.heap.size<=k->CV k=p∨CV k=e:=by
 refine⟨fun k=>if E k then e else bE κ w.heap.size p k,fun d=>?_,fun k hk=>?_,fun k hk=>?_⟩
 . by_cases h1:d=p
   . subst h1;refine LP.mono hP (fun k _ hk=>?_);show(if E k then e else bE κ w.heap.size d k)=d;rw[if_neg (hd k hk)];rcases Nat.lt_or_ge k w.heap.size with hl | hl
     . rw[bD hl];rcases iP k hk with i | i
       . exact i
       . omega
     . exact j4 hl
   . have hs:∀k,κ k=d∧k<w.heap.size->(if E k then e else bE κ w.heap.size p k)=d:=fun k hk=>by
      have hn:¬E k:=fun i=>by
       rcases iE k i with i | i
       . exact h1 (hk.1.symm.trans i)
       . omega
      rw[if_neg hn,bD hk.2];exact hk.1
     have h2:=(L d).turns ((L d).mono (h d) (S':=fun k=>κ k=d∧k<w.heap.size) (fun k hk e=>⟨e,hk⟩)) ht (fun k e e2=>h1 (e.1.symm.trans (hT k e2)));by_cases h3:d=e
     . subst h3;exact hE _ h2 hs (fun k hk=>if_pos hk)
     . rw[hX d h1 h3];exact(L d).mono h2 (fun k _ hk=>hs k hk)
 . show(if E k then e else bE κ w.heap.size p k)=κ k∨_∧(if E k then e else bE κ w.heap.size p k)=e;by_cases hE:E k
   . rcases iE k hE with i | i
     . exact Or.inr ⟨i,if_pos hE⟩
     . omega
   . exact Or.inl (by rw[if_neg hE,bD hk])
 . show(if E k then e else bE κ w.heap.size p k)=p∨(if E k then e else bE κ w.heap.size p k)=e;by_cases hE:E k
   . exact Or.inr (if_pos hE)
   . exact Or.inl (by rw[if_neg hE,j4 hk])
end
section
end
end Go.Proofs.YtjmndjmhjleabaaGreatDoor