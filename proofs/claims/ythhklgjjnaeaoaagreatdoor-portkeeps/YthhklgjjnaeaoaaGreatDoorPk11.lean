/- Small texts, one behind the other: Foot, MemO, MemA, MemC, MemJ. -/
import Derived.Test.YthhklgjjnaeaoaaGreatDoorPk1
import Derived.Deep.OwnRows
import Derived.Test.YthhklgjjnaeaoaaGreatDoorPk9
open Go.Value renaming int->I,string->V,slice->Z
open Go.IntKind renaming i64->J
open Option renaming none->U,some->M
open Or renaming inl->A,inr->R
open Go renaming World->X
namespace Go.Proofs.YthhklgjjnaeaoaaGreatDoor
open Go.RowKit
theorem kP {w:X}{g:Nat}{d:Array Value}{t:Nat}{f:Nat×Nat}{b e size:Nat}{v:Value}{n:Nat}{xs:List Value}(i:w.heap[g]? = M (.cells d t f))(h:w.ownsRow b e size v n xs)(c:t≠e):v.ownBlock≠M g:=by
 rcases h.2 with ⟨rfl,_⟩ | ⟨l,j,k,rfl,_,a,_⟩
 . simp[Value.ownBlock]
 . intro e;simp[Value.ownBlock] at e;subst e;rw[i] at a;injection a with a;injection a with _ e _;exact c e
theorem Gi {w:X}{g b:Nat}{i:Array Value}{t e:Nat}{j:Nat×Nat}{n:Nat}{f:Nat->Value}(k:w.heap[g]? = M (.cells i t j))(h:w.rowIs b e n f)(d:t≠e):b≠g:=by
 rintro rfl;obtain⟨c,a,_⟩:=h;rw[k] at a;injection a with a;injection a with _ l _;exact d l
structure Turns (S:Nat->Prop)(w w':X):Prop where
 os:w'.os=w.os
 tape:w'.tape=w.tape
 output:w'.output=w.output
 size:w.heap.size<=w'.heap.size
 block:∀k,k<w.heap.size->¬S k->w'.heap[k]? = w.heap[k]?
def gB (S:Nat->Prop)(w:X):Nat->Prop:=fun k=>S k∨w.heap.size<=k
section
variable {S S':Nat->Prop} {w w1 w':X}
theorem Turns.refl (S:Nat->Prop)(w:X):Turns S w w:=⟨rfl,rfl,rfl,aM _,fun _ _ _=>rfl⟩
theorem Turns.mono (h:Turns S w w')(a:∀k,S k->S' k):Turns S' w w':=⟨h.os,h.tape,h.output,h.size,fun k b c=>h.block k b (fun e=>c (a k e))⟩
theorem Turns.trans (h:Turns S w w1)(k:Turns S' w1 w')(c:∀i,S' i->i<w.heap.size->S i):Turns S w w' :=
 ⟨k.os.trans h.os,k.tape.trans h.tape,k.output.trans h.output,dB h.size k.size,fun i a b=>(k.block i (bZ a h.size) (fun e=>b (c i e a))).trans (h.block i a b)⟩
theorem Turns.then_ (h:Turns S w w1)(k:Turns (gB S w) w1 w'):Turns S w w':=h.trans k (fun i e a=>by
 rcases e with e | e
 . exact e
 . omega)
theorem Turns.iL {row:Option Nat}(h:w.grownBy w' row)(a:∀k,row=M k->S k):Turns S w w':=⟨h.os,h.tape,h.output,h.size,fun k b c=>h.block k b (fun e=>c (a k e.symm))⟩
theorem Turns.of_below (h:Below w.heap.size w w'):Turns S w w':=⟨h.os,h.tape,h.output,h.size,fun k a _=>h.block k a⟩
theorem Turns.drewN (S:Nat->Prop)(w:X)(n:Nat):Turns S w (w.drewN n):=⟨rfl,rfl,rfl,aM _,fun _ _ _=>rfl⟩
theorem Turns.setCell (S:Nat->Prop)(w:X)(a:Addr)(v:Value)(h:S a.block):Turns S w (w.setCell a v):=⟨rfl,rfl,rfl,by simp[World.setCell],fun k _ b=>fK w a k v (fun e=>b (by rw[e];exact h))⟩
theorem Turns.below {B:Nat}(h:Turns S w w')(a:∀k,S k->B<=k)(b:B<=w.heap.size):Below B w w':=⟨h.os,h.tape,h.output,h.size,fun k c=>h.block k (by omega) (fun e=>by have:=a k e;omega)⟩
theorem Turns.row (h:Turns S w w'){k:Nat}{o:Obj}(a:w.heap[k]? = M o)(b:¬S k):w'.heap[k]? = M o:=(h.block k (aL.1 a).1 b).trans a
theorem iA.turns {b t:Nat}{ao:ak}{cap:Nat}{l:av}(h:iA w b t ao cap l)(f:Turns S w w')(ha:∀a,ao=M a->¬S a.block):iA w' b t ao cap l:=by
 refine⟨h.1,?_⟩;rcases h.2 with i | ⟨g,c,d,e,j,k,r⟩
 . exact A i
 . refine R ⟨g,c,d,e,j,?_,r⟩;injection e with m n o;exact f.row k (ha _ m)
theorem gH.turns {b t k:Nat}{ao:ak}{cap n:Nat}{xs:List Value}(h:gH w b t k ao cap n xs)(f:Turns S w w')(ha:∀a,ao=M a->¬S a.block):gH w' b t k ao cap n xs:=by
 refine⟨h.1,?_⟩;rcases h.2 with i | ⟨g,c,d,e,j,l,r⟩
 . exact A i
 . refine R ⟨g,c,d,e,j,?_,r⟩;injection e with m o p;exact f.row l (ha _ m)
theorem gN.turns {ao:ak}{cap:Nat}{l:av}(h:gN w ao cap l)(c:Turns S w w')(ha:∀a,ao=M a->¬S a.block):gN w' ao cap l :=
 h.move fun a e v j b=>by
  have d:=c.block (a.add j).block (fH w _ b) (by rw[add_block];exact ha a e);rw[fO d];exact b
theorem ji.turns {ao:ak}{cap n:Nat}{xs:List Value}(h:ji w ao cap n xs)(c:Turns S w w')(ha:∀a,ao=M a->¬S a.block):ji w' ao cap n xs :=
 h.move fun a e v j b=>by
  have d:=c.block (a.add j).block (fH w _ b) (by rw[add_block];exact ha a e);rw[fO d];exact b
end
structure nN (w:X)(S:Nat->Prop)(ao:ak)(cap n:Nat)(xs:List Value):Prop where
 is:ji w ao cap n xs
 mem:xs≠[]->∀a,ao=M a->S a.block
structure jI (w:X)(S:Nat->Prop)(ao:ak)(cap:Nat)(l:av):Prop where
 is:gN w ao cap l
 mem:l≠[]->∀a,ao=M a->S a.block
def gK (w:X)(S:Nat->Prop)(t:Nat)(ao:ak)(cap:Nat)(l:av):Prop :=
 (l≠[]∧iA w 0 t ao cap l∧∀a,ao=M a->S a.block)∨(l=[]∧cap=0)
section
variable {w w':X} {S S':Nat->Prop} {t:Nat} {ao:ak} {cap n:Nat} {xs:List Value} {l:av}
theorem nN.nil (w:X)(S:Nat->Prop):nN w S U 0 0 []:=⟨ji.nil w,fun e=>absurd rfl e⟩
theorem jI.nil (w:X)(S:Nat->Prop):jI w S U 0 []:=⟨gN.nil w,fun e=>absurd rfl e⟩
theorem gK.nil (w:X)(S:Nat->Prop)(t:Nat):gK w S t U 0 []:=R ⟨rfl,rfl⟩
theorem nN.mono (h:nN w S ao cap n xs)(c:∀k,k<w.heap.size->S k->S' k):nN w S' ao cap n xs:=⟨h.is,fun b a e=>by
 refine c _ ?_ (h.mem b a e);subst e;cases xs with
 | nil=>exact absurd rfl b
 | cons u r =>
   have:=fH w _ (h.is.cell (j:=0) rfl);rwa[add_block] at this⟩
theorem jI.mono (h:jI w S ao cap l)(c:∀k,k<w.heap.size->S k->S' k):jI w S' ao cap l:=⟨h.is,fun b a e=>by
 refine c _ ?_ (h.mem b a e);subst e;cases l with
 | nil=>exact absurd rfl b
 | cons u r =>
   have:=fH w _ (h.is.cell 0 (by simp));rwa[add_block] at this⟩
theorem gK.mono (h:gK w S t ao cap l)(c:∀k,k<w.heap.size->S k->S' k):gK w S' t ao cap l:=by
 rcases h with ⟨d,b,f⟩ | h
 . exact A ⟨d,b,fun a e=>c _ (b.block a e).2 (f a e)⟩
 . exact R h
theorem ji.empty (w:X)(h:ji w' ao cap n []):ji w ao cap n []:=⟨h.1,h.2.1,fun j u a=>by simp at a⟩
theorem gN.empty (w:X)(h:gN w' ao cap []):gN w ao cap []:=⟨h.1,h.2.1,fun j a=>by simp at a⟩
theorem nN.turns (h:nN w S ao cap n xs)(c:Turns S' w w')(d:∀k,S k->¬S' k):nN w' S ao cap n xs:=by
 refine⟨?_,h.mem⟩;by_cases b:xs=[]
 . subst b;exact ji.empty w' h.is
 . exact h.is.turns c (fun a e=>d _ (h.mem b a e))
theorem jI.turns (h:jI w S ao cap l)(c:Turns S' w w')(d:∀k,S k->¬S' k):jI w' S ao cap l:=by
 refine⟨?_,h.mem⟩;by_cases b:l=[]
 . subst b;exact gN.empty w' h.is
 . exact h.is.turns c (fun a e=>d _ (h.mem b a e))
theorem gK.turns (h:gK w S t ao cap l)(c:Turns S' w w')(d:∀k,S k->¬S' k):gK w' S t ao cap l:=by
 rcases h with ⟨f,g,b⟩ | h
 . exact A ⟨f,g.turns c (fun a e=>d _ (b a e)),b⟩
 . exact R h
theorem gK.tQ (h:gK w S t ao cap l):gN w ao cap l:=by
 rcases h with ⟨_,a,_⟩ | ⟨rfl,rfl⟩
 . exact a.tQ
 . exact⟨aM _,fun _=>rfl,fun j b=>by simp at b⟩
theorem gK.abm (h:gK w S t ao cap l):jI w S ao cap l:=⟨h.tQ,fun b a e=>by
 rcases h with ⟨_,_,c⟩ | ⟨d,_⟩
 . exact c a e
 . exact absurd d b⟩
end
structure BQ (w:X)(S:Nat->Prop)(e:iH)(s:EvS):Prop where
 fields:nN w S s.fo s.fZ e.fields.length (gG e.fields)
 bytes:jI w S s.bo s.fU e.bytes
 gT:jI w S s.po s.jh e.gT
theorem BQ.mono {w:X}{S S':Nat->Prop}{e:iH}{s:EvS}(h:BQ w S e s)(a:∀k,k<w.heap.size->S k->S' k):BQ w S' e s:=⟨h.fields.mono a,h.bytes.mono a,h.gT.mono a⟩
theorem BQ.turns {w w':X}{S S':Nat->Prop}{e:iH}{s:EvS}(h:BQ w S e s)(a:Turns S' w w')(b:∀k,S k->¬S' k):BQ w' S e s:=⟨h.fields.turns a b,h.bytes.turns a b,h.gT.turns a b⟩
def iY (ps:List (iH×EvS)):List Value:=ps.flatMap fun p=>p.1.cells p.2
theorem nQ (a:List (iH×EvS)):(iY a).length=a.length*12:=by
 induction a with
 | nil=>rfl
 | cons p t b =>
   have e:(p.1.cells p.2).length=12:=rfl;simp only[iY,aU,aV,aW] at b ⊢;rw[b,e];omega
theorem nR (a b:List (iH×EvS)):iY (a++b)=iY a++iY b:=by simp[iY]
theorem cells_one (e:iH)(s:EvS):∀u∈e.cells s,u.oneCell'=true:=by
 intro u a;simp only[iH.cells,dZ,List.not_mem_nil,or_false] at a;rcases a with rfl | rfl | rfl | rfl | rfl | rfl | rfl | rfl | rfl | rfl | rfl | rfl <;> rfl
theorem sJ:∀(a:List (iH×EvS)) (i:Nat) (b:i<a.length) (j:Nat),j<12->(iY a)[i*12+j]? = (a[i].1.cells a[i].2)[j]?
 | p :: t, 0, _, j, hj => by
   show(p.1.cells p.2++iY t)[0*12+j]? = _;rw[aX (by rw[show(p.1.cells p.2).length=12 from rfl];omega),aY,aZ];rfl
 | p :: t, i + 1, b, j, hj => by
   show(p.1.cells p.2++iY t)[(i+1)*12+j]? = _;rw[bg (by rw[show(p.1.cells p.2).length=12 from rfl];omega),show(p.1.cells p.2).length=12 from rfl,show(i+1)*12+j-12=i*12+j by omega];exact sJ t i (by simpa using b) j hj
theorem iH.made (e:iH)(s:EvS)(W:X)(t:Nat)(a:Nat×Nat){k:Nat}(b:W.heap.size=k):ji (W.alloc (.cells #[I J e.kind,V e.method,V e.target,I J e.minor,Z s.fo e.fields.length s.fZ,I J e.length,Z s.bo e.bytes.length s.fU,V e.kK,V e.ku,V e.ptype,Z s.po e.gT.length s.jh,I J e.code] t a)) (M ⟨k,0,U⟩) 1 1 (e.cells s):=by
 subst b;exact ji.made W _ 1 t a
def lastB (e:iH)(s:EvS):Option Nat:=if e.bytes=[] then U else fV s.bo
inductive jD (w:X)(S:Nat->Prop)(tE tb:Nat):ak->Nat->List iH->Prop
 | bare:jD w S tE tb U 0 []
 | laid (q:List (iH×EvS)) (e:iH) (s:EvS) (g cap:Nat) (own:gH w 0 tE 12 (M ⟨g,0,U⟩) cap (q.length+1) (iY (q++[(e,s)]))) (mem:S g)
  (ahead:∀p∈q,BQ w (fun k=>(S k∧k≠g)∧lastB e s≠M k) p.1 p.2)
  (fields:nN w (fun k=>(S k∧k≠g)∧lastB e s≠M k) s.fo s.fZ e.fields.length (gG e.fields))
  (gT:jI w (fun k=>(S k∧k≠g)∧lastB e s≠M k) s.po s.jh e.gT)
  (bytes:gK w (fun k=>S k∧k≠g) tb s.bo s.fU e.bytes):jD w S tE tb (M ⟨g,0,U⟩) cap (q.map (·.1)++[e])
section
variable {w w':X} {S S':Nat->Prop} {tE tb:Nat} {ao:ak} {cap:Nat} {es:List iH}
theorem jD.turns (h:jD w S tE tb ao cap es)(f:Turns S' w w')(i:∀k,S k->¬S' k):jD w' S tE tb ao cap es:=by
 cases h with
 | bare=>exact .bare
 | laid q e s g cap own j c b l d =>
   exact .laid q e s g cap (own.turns f (fun a e=>by injection e with e;subst e;exact i _ j)) j (fun p m=>(c p m).turns f (fun k e=>i k e.1.1)) (b.turns f (fun k e=>i k e.1.1)) (l.turns f (fun k e=>i k e.1.1)) (d.turns f (fun k e=>i k e.1))
theorem jD.mono (h:jD w S tE tb ao cap es)(f:∀k,k<w.heap.size->S k->S' k):jD w S' tE tb ao cap es:=by
 cases h with
 | bare=>exact .bare
 | laid q e s g cap own i b a l c =>
   have d:∀k,k<w.heap.size->((S k∧k≠g)∧lastB e s≠M k)->((S' k∧k≠g)∧lastB e s≠M k):=fun k j e=>⟨⟨f k j e.1.1,e.1.2⟩,e.2⟩;exact .laid q e s g cap own (f g (own.block _ rfl).2 i) (fun p m=>(b p m).mono d) (a.mono d) (l.mono d) (c.mono (fun k j e=>⟨f k j e.1,e.2⟩))
theorem jD.stay (h:jD w S tE tb ao cap es)(a:Below w.heap.size w w'):jD w' S tE tb ao cap es:=h.turns (Turns.of_below (S:=fun _=>False) a) (fun _ _ e=>e)
theorem jD.own (h:jD w S tE tb ao cap es):∃j:List (iH×EvS),j.map (·.1)=es∧gH w 0 tE 12 ao cap es.length (iY j)∧(∀a,ao=M a->S a.block)∧∀p∈j,BQ w (fun k=>S k∧fV ao≠M k) p.1 p.2:=by
 cases h with
 | bare=>exact⟨[],rfl,gH.nil _ _ _ _,fun a e=>(by cases e),fun p c=>(by cases c)⟩
 | laid q e s g cap own l d b n f =>
   refine⟨q++[(e,s)],by simp,by simpa using own,fun a e=>(by injection e with e;subst e;exact l),fun p c=>?_⟩;have m:∀k,k<w.heap.size->((S k∧k≠g)∧lastB e s≠M k)->(S k∧fV (M ⟨g,0,U⟩)≠M k):=fun k _ e=>⟨e.1.1,fun i=>by injection i with i;exact e.1.2 i.symm⟩;rcases bq.1 c with c | c
   . exact(d p c).mono m
   . simp at c;subst c;exact⟨b.mono m,f.abm.mono (fun k _ e=>⟨e.1,fun i=>by injection i with i;exact e.2 i.symm⟩),n.mono m⟩
theorem jD.last {q:List iH}{x:iH}(h:jD w S tE tb ao cap es)(f:es=q++[x]):∃(b:List (iH×EvS)) (s:EvS) (g:Nat),b.map (·.1)=q∧ao=M ⟨g,0,U⟩ ∧
 gH w 0 tE 12 (M ⟨g,0,U⟩) cap (b.length+1) (iY (b++[(x,s)]))∧S g∧(∀p∈b,BQ w (fun k=>(S k∧k≠g)∧lastB x s≠M k) p.1 p.2) ∧
 nN w (fun k=>(S k∧k≠g)∧lastB x s≠M k) s.fo s.fZ x.fields.length (gG x.fields)∧jI w (fun k=>(S k∧k≠g)∧lastB x s≠M k) s.po s.jh x.gT∧gK w (fun k=>S k∧k≠g) tb s.bo s.fU x.bytes:=by
 cases h with
 | bare=>simp at f
 | laid b e s g cap own c a fields i bytes =>
   obtain⟨j,d⟩:=bF f rfl;injection d with d _;subst d;exact⟨b,s,g,j,rfl,own,c,a,fields,i,bytes⟩
theorem jD.more {N:Nat->Prop}{j:List (iH×EvS)}{gJ:ak}{b n:Nat}{e:iH}{s:EvS}
 (B:∀a,ao=M a->S a.block) (C:∀p∈j,BQ w (fun k=>S k∧fV ao≠M k) p.1 p.2)
 (D:nN w (fun k=>N k∧lastB e s≠M k) s.fo s.fZ e.fields.length (gG e.fields)) (q:jI w (fun k=>N k∧lastB e s≠M k) s.po s.jh e.gT) (x:gK w N tb s.bo s.fU e.bytes)
 (l:∀k,S k->¬N k) (y:gH w' 0 tE 12 gJ b n (iY (j++[(e,s)]))) (G:n=j.length+1)
 (H:w.grownBy w' (fV ao)) (r:fV gJ=fV ao∨fV gJ=M w.heap.size) :
 jD w' (fun k=>S k∨N k∨k=w.heap.size) tE tb gJ b (j.map (·.1)++[e]):=by
 subst G;have o:=Turns.iL H (fun k e=>e);have m:∀k,fV ao=M k->S k:=fun k e=>by
  cases ao with
  | none=>cases e
  | some a=>injection e with e;subst e;exact B a rfl
 obtain⟨g,rfl⟩:∃g,gJ=M ⟨g,0,U⟩:=by
  rcases y.2 with ⟨_,h⟩ | ⟨g,cap,L,h,_⟩
  . omega
  . injection h with h _ _;exact⟨g,h⟩
 have t:fV ao=M g∨g=w.heap.size:=by
  rcases r with h | h
  . exact A h.symm
  . injection h with h;exact R h
 have c:∀k,lastB e s=M k->N k:=fun k h=>by
  unfold lastB at h;split at h
  . cases h
  . rcases x with ⟨_,_,T⟩ | ⟨W,_⟩
    . cases u:s.bo with
      | none=>rw[u] at h;cases h
      | some a=>rw[u] at h;injection h with h;subst h;exact T a u
    . contradiction
 have d:∀k,k<w.heap.size->N k->k≠g:=fun k f v e=>by
  subst e;rcases t with h | h
  . exact l k (m k h) v
  . omega
 refine .laid j e s g b y ?_ (fun p q=>?_) ?_ ?_ ?_
 . rcases t with h | h
   . exact A (m g h)
   . exact R (R h)
 . refine((C p q).mono (S':=fun k=>((S k∨N k∨k=w.heap.size)∧k≠g)∧lastB e s≠M k∧fV ao≠M k) (fun k f h=>⟨⟨A h.1,fun e=>?_⟩,fun i=>l k h.1 (c k i),h.2⟩) |>.turns o (fun k h=>h.2.2)).mono (fun k _ h=>⟨h.1,h.2.1⟩);subst e;rcases t with z | z
   . exact h.2 z
   . omega
 . exact(D.mono (S':=fun k=>((S k∨N k∨k=w.heap.size)∧k≠g)∧lastB e s≠M k∧N k) (fun k f h=>⟨⟨R (A h.1),d k f h.1⟩,h.2,h.1⟩) |>.turns o (fun k h i=>l k (m k i) h.2.2)).mono (fun k _ h=>⟨h.1,h.2.1⟩)
 . exact(q.mono (S':=fun k=>((S k∨N k∨k=w.heap.size)∧k≠g)∧lastB e s≠M k∧N k) (fun k f h=>⟨⟨R (A h.1),d k f h.1⟩,h.2,h.1⟩) |>.turns o (fun k h i=>l k (m k i) h.2.2)).mono (fun k _ h=>⟨h.1,h.2.1⟩)
 . exact(x.mono (S':=fun k=>((S k∨N k∨k=w.heap.size)∧k≠g)∧N k) (fun k f h=>⟨⟨R (A h),d k f h⟩,h⟩) |>.turns o (fun k h i=>l k (m k i) h.2)).mono (fun k _ h=>h.1)
end
def mR (w:X)(S:Nat->Prop)(tE:Nat)(ao:ak)(cap:Nat)(es:List iH):Prop :=
 ∃ps:List (iH×EvS),ps.map (·.1)=es∧gH w 0 tE 12 ao cap es.length (iY ps)∧(∀a,ao=M a->S a.block)∧∀p∈ps,BQ w (fun k=>S k∧fV ao≠M k) p.1 p.2
section
variable {w w':X} {S S' N:Nat->Prop} {tE tb:Nat} {ao jZ gJ:ak} {cap cap2 cap' n:Nat} {es es2:List iH}
theorem jD.all (h:jD w S tE tb ao cap es):mR w S tE ao cap es:=h.own
theorem mR.turns (h:mR w S tE ao cap es)(b:Turns S' w w')(c:∀k,S k->¬S' k):mR w' S tE ao cap es:=by
 obtain⟨f,g,i,d,j⟩:=h;exact⟨f,g,i.turns b (fun a e=>c _ (d a e)),d,fun p l=>(j p l).turns b (fun k e=>c k e.1)⟩
theorem mR.mono (h:mR w S tE ao cap es)(b:∀k,k<w.heap.size->S k->S' k):mR w S' tE ao cap es:=by
 obtain⟨d,f,c,g,i⟩:=h;exact⟨d,f,c,fun a e=>b _ (c.block a e).2 (g a e),fun p j=>(i p j).mono (fun k l e=>⟨b k l e.1,e.2⟩)⟩
theorem mR.afZ (h:mR w S tE ao cap es):afY w ao cap es:=by
 obtain⟨d,rfl,g,_,k⟩:=h;have e:=g.qE;refine⟨e.1,e.2.1,fun j l=>?_⟩;have c:j<d.length:=by simpa using l
 have m:0<(iY d).length:=by rw[nQ];omega
 obtain⟨b,o,rfl,p⟩:=e.lit m;refine⟨b,o,d[j].2,rfl,?_⟩;rw[aG];have a:=k _ (aC c);refine⟨fun i u f=>?_,a.fields.is,a.bytes.is,a.gT.is⟩;have q:i<12:=(aQ.1 f).1;rw[<-sJ _ j c i q] at f;have:=p _ _ f;rw[bJ];exact this
theorem mR.more {c ps2:List (iH×EvS)}(m:∀a,ao=M a->S a.block)(q:∀p∈c,BQ w (fun k=>S k∧fV ao≠M k) p.1 p.2)(r:∀p∈ps2,BQ w N p.1 p.2)(s:∀k,S k->¬N k)
 (t:gH w' 0 tE 12 gJ cap' n (iY c++iY ps2)) (u:n=c.length+ps2.length) (v:w.grownBy w' (fV ao)) (d:fV gJ=fV ao∨fV gJ=M w.heap.size) :
 mR w' (fun k=>S k∨N k∨k=w.heap.size) tE gJ cap' (c.map (·.1)++ps2.map (·.1)):=by
 subst u;have o:=Turns.iL v (fun k e=>e);have f:∀k,k<w.heap.size->fV ao≠M k->fV gJ≠M k:=fun k b h e=>by
  rcases d with g | g
  . rw[g] at e;exact h e
  . rw[g] at e;injection e with e;omega
 refine⟨c++ps2,by simp,?_,fun a e=>?_,fun p i=>?_⟩
 . rw[nR];simpa using t
 . subst e;rcases d with g | g
   . cases ao with
     | none=>simp[fV] at g
     | some l=>simp only[fV,bS] at g;rw[g];exact A (m l rfl)
   . simp only[fV,bS] at g;exact R (R g)
 . rcases bq.1 i with i | i
   . exact((q p i).mono (S':=fun k=>(S k∧fV ao≠M k)∧k<w.heap.size) (fun k b e=>⟨e,b⟩)).turns o (fun k e=>e.1.2) |>.mono (fun k _ e=>⟨A e.1.1,f k e.2 e.1.2⟩)
   . have j:∀k,N k->fV ao≠M k:=fun k b e=>by
      cases ao with
      | none=>simp[fV] at e
      | some l=>simp only[fV,bS] at e;exact s _ (m l rfl) (e▸b)
     exact((r p i).mono (S':=fun k=>N k∧k<w.heap.size) (fun k b e=>⟨e,b⟩)).turns o (fun k e=>j k e.1) |>.mono (fun k _ e=>⟨R (A e.1),f k e.2 (j k e.1)⟩)
end
def oC (w:X)(S:Nat->Prop)(tE:Nat)(ao:ak)(cap:Nat)(es:List iH):Prop :=
 ∃ps:List (iH×EvS),ps.map (·.1)=es∧gH w 0 tE 12 ao cap es.length (iY ps)∧(∀a,ao=M a->S a.block)∧(∀p∈ps,BQ w (fun k=>S k∧fV ao≠M k) p.1 p.2)∧∀p∈ps,p.2.po=U∧p.2.jh=0
section
variable {w w':X} {S S' N:Nat->Prop} {tE:Nat} {ao gJ:ak} {cap cap' n:Nat} {es:List iH}
theorem oC.all (h:oC w S tE ao cap es):mR w S tE ao cap es:=by grind [oC,mR]
theorem oC.nil (w:X)(S:Nat->Prop)(tE:Nat):oC w S tE U 0 []:=⟨[],rfl,gH.nil _ _ _ _,fun a e=>(by cases e),fun p b=>(by cases b),fun p b=>(by cases b)⟩
theorem oC.turns (h:oC w S tE ao cap es)(b:Turns S' w w')(c:∀k,S k->¬S' k):oC w' S tE ao cap es:=by
 obtain⟨f,g,i,d,j,l⟩:=h;exact⟨f,g,i.turns b (fun a e=>c _ (d a e)),d,fun p m=>(j p m).turns b (fun k e=>c k e.1),l⟩
theorem oC.mono (h:oC w S tE ao cap es)(b:∀k,k<w.heap.size->S k->S' k):oC w S' tE ao cap es:=by
 obtain⟨d,f,c,g,i,j⟩:=h;exact⟨d,f,c,fun a e=>b _ (c.block a e).2 (g a e),fun p l=>(i p l).mono (fun k m e=>⟨b k m e.1,e.2⟩),j⟩
theorem oC.more {c ps2:List (iH×EvS)}(m:∀a,ao=M a->S a.block)(q:∀p∈c,BQ w (fun k=>S k∧fV ao≠M k) p.1 p.2)(r:∀p∈ps2,BQ w N p.1 p.2)(s:∀k,S k->¬N k)
 (t:gH w' 0 tE 12 gJ cap' n (iY c++iY ps2)) (u:n=c.length+ps2.length) (v:w.grownBy w' (fV ao)) (f:fV gJ=fV ao∨fV gJ=M w.heap.size) (x:∀p∈c,p.2.po=U∧p.2.jh=0) (y:∀p∈ps2,p.2.po=U∧p.2.jh=0) :
 oC w' (fun k=>S k∨N k∨k=w.heap.size) tE gJ cap' (c.map (·.1)++ps2.map (·.1)):=by
 subst u;have o:=Turns.iL v (fun k e=>e);have i:∀k,k<w.heap.size->fV ao≠M k->fV gJ≠M k:=fun k d h e=>by
  rcases f with g | g
  . rw[g] at e;exact h e
  . rw[g] at e;injection e with e;omega
 refine⟨c++ps2,by simp,?_,fun a e=>?_,fun p b=>?_,fun p b=>(bq.1 b).elim (x p) (y p)⟩
 . rw[nR];simpa using t
 . subst e;rcases f with g | g
   . cases ao with
     | none=>simp[fV] at g
     | some l=>simp only[fV,bS] at g;rw[g];exact A (m l rfl)
   . simp only[fV,bS] at g;exact R (R g)
 . rcases bq.1 b with b | b
   . exact((q p b).mono (S':=fun k=>(S k∧fV ao≠M k)∧k<w.heap.size) (fun k d e=>⟨e,d⟩)).turns o (fun k e=>e.1.2) |>.mono (fun k _ e=>⟨A e.1.1,i k e.2 e.1.2⟩)
   . have j:∀k,N k->fV ao≠M k:=fun k d e=>by
      cases ao with
      | none=>simp[fV] at e
      | some l=>simp only[fV,bS] at e;exact s _ (m l rfl) (e▸d)
     exact((r p b).mono (S':=fun k=>N k∧k<w.heap.size) (fun k d e=>⟨e,d⟩)).turns o (fun k e=>j k e.1) |>.mono (fun k _ e=>⟨R (A e.1),i k e.2 (j k e.1)⟩)
end
abbrev Ob:=X->(Nat->Prop)->Prop
structure kE (aan:Ob):Prop where
 turns:∀{w w':X} {S S':Nat->Prop},aan w S->Turns S' w w'->(∀k,S k->¬S' k)->aan w' S
 mono:∀{w:X} {S S':Nat->Prop},aan w S->(∀k,k<w.heap.size->S k->S' k)->aan w S'
theorem kE.kC:kE (fun _ _=>True):=⟨fun _ _ _=>trivial,fun _ _=>trivial⟩
section
variable {C:Type} {κ:Nat->C} {w w':X} {aan X':C->Ob} {c:C}
def iC (κ:Nat->C)(n:Nat)(c:C):Nat->C:=fun k=>if k<n then κ k else c
theorem iq {n k:Nat}(h:k<n):iC κ n c k=κ k:=if_pos h
theorem nI {n k:Nat}(h:n<=k):iC κ n c k=c:=if_neg (by omega)
def Held (aan:C->Ob)(κ:Nat->C)(w:X):Prop:=∀d,aan d w (fun k=>κ k=d)
theorem Held.stay (L:∀d,kE (aan d))(h:Held aan κ w)(a:Below w.heap.size w w'):Held aan κ w':=fun d=>(L d).turns (h d) (Turns.of_below (S:=fun _=>False) a) (fun _ _ e=>e)
theorem Held.act (L:∀d,kE (aan d))(h:Held aan κ w){T N:Nat->Prop}(f:Turns T w w')(g:∀k,T k->κ k=c)(i:kE (X' c))(j:X' c w' N)(l:∀k,N k->κ k=c∨w.heap.size<=k)(m:∀d,d≠c->X' d=aan d):Held X' (iC κ w.heap.size c) w':=by
 intro d;by_cases b:d=c
 . subst b;refine i.mono j (fun k _ e=>?_);show iC κ w.heap.size d k=d;rcases aT k w.heap.size with a | a
   . rw[iq a];rcases l k e with e | e
     . exact e
     . omega
   . exact nI a
 . rw[m d b];have n:=(L d).mono (h d) (S':=fun k=>κ k=d∧k<w.heap.size) (fun k a e=>⟨e,a⟩);have o:=(L d).turns n f (fun k e p=>b (e.1.symm.trans (g k p)));exact(L d).mono o (fun k _ e=>by show iC κ w.heap.size c k=d;rw[iq e.2];exact e.1)
open Classical in
theorem Held.split (L:∀d,kE (aan d))(h:Held aan κ w){p e:C}(q:p≠e){T P E:Nat->Prop}(r:Turns T w w')(s:∀k,T k->κ k=p)(t:X' p w' P)(u:kE (X' p))(hd:∀k,P k->¬E k)(v:∀k,P k->κ k=p∨w.heap.size<=k)(l:∀k,E k->κ k=p∨w.heap.size<=k)
 (b:∀S:Nat->Prop,aan e w' (fun k=>κ k=e∧k<w.heap.size)->(∀k,κ k=e∧k<w.heap.size->S k)->(∀k,E k->S k)->X' e w' S) (x:∀d,d≠p->d≠e->X' d=aan d) :
 ∃f,Held X' f w'∧(∀k,k<w.heap.size->f k=κ k∨(κ k=p∧f k=e))∧∀k,w.heap.size<=k->f k=p∨f k=e:=by
 refine⟨fun k=>if E k then e else iC κ w.heap.size p k,fun d=>?_,fun k a=>?_,fun k a=>?_⟩
 . by_cases g:d=p
   . subst g;refine u.mono t (fun k _ a=>?_);show(if E k then e else iC κ w.heap.size d k)=d;rw[if_neg (hd k a)];rcases aT k w.heap.size with j | j
     . rw[iq j];rcases v k a with i | i
       . exact i
       . omega
     . exact nI j
   . have m:∀k,κ k=d∧k<w.heap.size->(if E k then e else iC κ w.heap.size p k)=d:=fun k a=>by
      have y:¬E k:=fun i=>by
       rcases l k i with i | i
       . exact g (a.1.symm.trans i)
       . omega
      rw[if_neg y,iq a.2];exact a.1
     have n:=(L d).turns ((L d).mono (h d) (S':=fun k=>κ k=d∧k<w.heap.size) (fun k a e=>⟨e,a⟩)) r (fun k e z=>g (e.1.symm.trans (s k z)));by_cases o:d=e
     . subst o;exact b _ n m (fun k a=>if_pos a)
     . rw[x d g o];exact(L d).mono n (fun k _ a=>m k a)
 . show(if E k then e else iC κ w.heap.size p k)=κ k∨_∧(if E k then e else iC κ w.heap.size p k)=e;by_cases b:E k
   . rcases l k b with i | i
     . exact R ⟨i,if_pos b⟩
     . omega
   . exact A (by rw[if_neg b,iq a])
 . show(if E k then e else iC κ w.heap.size p k)=p∨(if E k then e else iC κ w.heap.size p k)=e;by_cases b:E k
   . exact R (if_pos b)
   . exact A (by rw[if_neg b,nI a])
end
structure Wh where
 bo:ak
 fU:Nat
def RV (u:Jn.E)(s:Wh):List Value:=[I J u.kind,I J u.id,I J u.n,Z s.bo u.text.length s.fU]
def Qj (us:List (Jn.E×Wh)):List Value:=us.flatMap fun x=>RV x.1 x.2
theorem Nq (a b:List (Jn.E×Wh)):Qj (a++b)=Qj a++Qj b:=by simp[Qj]
theorem Ze (u:Jn.E)(s:Wh):Qj [(u,s)]=RV u s:=by simp[Qj]
theorem Nr (a:List (Jn.E×Wh)):(Qj a).length=a.length*4:=by
 induction a with
 | nil=>rfl
 | cons p t b =>
   have e:(RV p.1 p.2).length=4:=rfl;simp only[Qj,aU,aV,aW] at b ⊢;rw[b,e];omega
theorem Zf (u:Jn.E)(s:Wh):∀v∈RV u s,v.oneCell'=true:=by
 intro v a;simp only[RV,dZ,List.not_mem_nil,or_false] at a;rcases a with rfl | rfl | rfl | rfl <;> rfl
theorem DL:∀(a:List (Jn.E×Wh)) (i:Nat) (b:i<a.length) (j:Nat),j<4->(Qj a)[i*4+j]? = (RV a[i].1 a[i].2)[j]?
 | p :: t, 0, _, j, hj => by
   show(RV p.1 p.2++Qj t)[0*4+j]? = _;rw[aX (by rw[show(RV p.1 p.2).length=4 from rfl];omega),aY,aZ];rfl
 | p :: t, i + 1, b, j, hj => by
   show(RV p.1 p.2++Qj t)[(i+1)*4+j]? = _;rw[bg (by rw[show(RV p.1 p.2).length=4 from rfl];omega),show(RV p.1 p.2).length=4 from rfl,show(i+1)*4+j-4=i*4+j by omega];exact DL t i (by simpa using b) j hj
def Bg (w:X)(ao:ak)(cap:Nat)(l:List Jn.E):Prop:=∃us:List (Jn.E×Wh),us.map (·.1)=l∧ji w ao cap l.length (Qj us)∧∀x∈us,gN w x.2.bo x.2.fU x.1.text
theorem Bg.stay {w w':X}{ao:ak}{cap:Nat}{l:List Jn.E}(h:Bg w ao cap l)(a:Below w.heap.size w w'):Bg w' ao cap l:=by
 obtain⟨b,c,d,e⟩:=h;exact⟨b,c,d.stay a,fun x f=>(e x f).stay a⟩
theorem Bg.at_ {w:X}{ao:ak}{cap:Nat}{l:List Jn.E}(h:Bg w ao cap l)(k:Nat)(f:k<l.length):∃(b o:Nat) (s:Wh),ao=M ⟨b,o,U⟩∧w.cell? ⟨b,o+k*4,U⟩=M (I J l[k].kind)∧w.cell? ⟨b,o+k*4+1,U⟩=M (I J l[k].id)∧w.cell? ⟨b,o+k*4+2,U⟩=M (I J l[k].n)∧w.cell? ⟨b,o+k*4+3,U⟩=M (Z s.bo l[k].text.length s.fU)∧gN w s.bo s.fU l[k].text:=by
 obtain⟨c,rfl,g,i⟩:=h;have a:k<c.length:=by simpa using f
 obtain⟨b,o,rfl,d⟩:=g.lit (by rw[Nr];omega);have j:=i _ (aC a);have e:=DL c k a 0 (by decide);have m:=DL c k a 1 (by decide);have p:=DL c k a 2 (by decide);have q:=DL c k a 3 (by decide);refine⟨b,o,c[k].2,rfl,?_,?_,?_,?_,?_⟩
 . rw[aG];exact d _ _ (by rw[bI] at e;exact e)
 . rw[aG,bJ];exact d _ _ m
 . rw[aG,bJ];exact d _ _ p
 . rw[aG,bJ];exact d _ _ q
 . rw[aG];exact j
def mV (w:X)(S:Nat->Prop)(tU:Nat)(ao:ak)(cap:Nat)(l:List Jn.E):Prop :=
 ∃us:List (Jn.E×Wh),us.map (·.1)=l∧gH w 0 tU 4 ao cap l.length (Qj us)∧(∀a,ao=M a->S a.block)∧∀x∈us,jI w (fun k=>S k∧fV ao≠M k) x.2.bo x.2.fU x.1.text
section
variable {w w':X} {S S':Nat->Prop} {tU:Nat} {ao:ak} {cap:Nat} {l:List Jn.E}
theorem mV.nil (w:X)(S:Nat->Prop)(tU:Nat):mV w S tU U 0 []:=⟨[],rfl,gH.nil _ _ _ _,fun a e=>(by cases e),fun p b=>(by cases b)⟩
theorem mV.ads (h:mV w S tU ao cap l):Bg w ao cap l:=by
 obtain⟨a,b,c,_,d⟩:=h;exact⟨a,b,c.qE,fun x e=>(d x e).is⟩
theorem mV.turns (h:mV w S tU ao cap l)(b:Turns S' w w')(c:∀k,S k->¬S' k):mV w' S tU ao cap l:=by
 obtain⟨f,g,i,d,j⟩:=h;exact⟨f,g,i.turns b (fun a e=>c _ (d a e)),d,fun x m=>(j x m).turns b (fun k e=>c k e.1)⟩
theorem mV.mono (h:mV w S tU ao cap l)(b:∀k,k<w.heap.size->S k->S' k):mV w S' tU ao cap l:=by
 obtain⟨d,f,c,g,i⟩:=h;exact⟨d,f,c,fun a e=>b _ (c.block a e).2 (g a e),fun x j=>(i x j).mono (fun k m e=>⟨b k m e.1,e.2⟩)⟩
theorem mV.stay (h:mV w S tU ao cap l)(a:Below w.heap.size w w'):mV w' S tU ao cap l:=h.turns (Turns.of_below (S:=fun _=>False) a) (fun _ _ e=>e)
theorem mV.push {W:X}(h:mV W S tU ao cap l)(m:Obj):∃xs,gH (W.alloc m) 0 tU 4 ao cap l.length xs ∧
 ∀gJ b w' (u:Jn.E) (s:Wh) (N:Nat->Prop),jI W N s.bo s.fU u.text->(∀k,S k->¬N k)->gH w' 0 tU 4 gJ b (l.length+1) (xs++RV u s)->(W.alloc m).grownBy w' (fV ao)->(fV gJ=fV ao∨fV gJ=M (W.alloc m).heap.size)->mV w' (fun k=>S k∨N k∨W.heap.size<=k) tU gJ b (l++[u])∧Turns S W w':=by
 obtain⟨p,r,t,v,y⟩:=h;have q:Below W.heap.size W (W.alloc m):=(eY _ _).alloc (aM _) _;have n:∀k,fV ao=M k->S k:=fun k e=>by
  cases ao with
  | none=>cases e
  | some a=>injection e with e;subst e;exact v a rfl
 refine⟨Qj p,t.stay q,fun gJ b w' u s N z B C D d=>?_⟩;have o:=(Turns.of_below q).trans (Turns.iL D (fun k e=>e)) (fun _ e _=>e);have f:∀k,k<W.heap.size->fV ao≠M k->fV gJ≠M k:=fun k c h e=>by
  rcases d with g | g
  . rw[g] at e;exact h e
  . rw[g,fG] at e;injection e with e;omega
 refine⟨⟨p++[(u,s)],by simp[r],by rw[Nq,Ze,aV];exact C,fun a e=>?_,fun x i=>?_⟩,o.mono (fun k e=>n k e)⟩
 . subst e;rcases d with g | g
   . exact A (n _ (g.symm.trans rfl))
   . rw[fG] at g;injection g with g;exact R (R (by omega))
 . rcases bq.1 i with i | i
   . exact(((y x i).mono (S':=fun k=>(S k∧fV ao≠M k)∧k<W.heap.size) (fun k c e=>⟨e,c⟩)).turns o (fun k e=>e.1.2)).mono (fun k _ e=>⟨A e.1.1,f k e.2 e.1.2⟩)
   . rw[bA.1 i];have j:∀k,N k->fV ao≠M k:=fun k c e=>B k (n k e) c;exact((z.mono (S':=fun k=>N k∧k<W.heap.size) (fun k c e=>⟨e,c⟩)).turns o (fun k e=>j k e.1)).mono (fun k _ e=>⟨R (A e.1),f k e.2 (j k e.1)⟩)
end
end Go.Proofs.YthhklgjjnaeaoaaGreatDoor