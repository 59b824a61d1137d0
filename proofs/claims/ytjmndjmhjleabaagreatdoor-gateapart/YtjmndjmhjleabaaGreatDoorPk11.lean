/- Small texts, one behind the other: Foot, MemO, MemA, MemC, MemJ. -/
import Derived.Test.YtjmndjmhjleabaaGreatDoorPk1
import Derived.Deep.OwnRows
import Derived.Test.YtjmndjmhjleabaaGreatDoorPk9
open Go.Value renaming string->V
open Option renaming none->U,some->M
open Or renaming inl->A,inr->R
open Go renaming World->X
namespace Go.Proofs.YtjmndjmhjleabaaGreatDoor
open Go.RowKit
theorem lF {w:X}{g:Nat}{d:Array Value}{t:Nat}{f:Nat×Nat}{b e size:Nat}{v:Value}{n:Nat}{xs:List Value}(i:w.heap[g]? = M (.cells d t f))(h:w.ownsRow b e size v n xs)(c:t≠e):v.ownBlock≠M g:=by
 rcases h.2 with ⟨rfl,_⟩ | ⟨l,j,k,rfl,_,a,_⟩
 . simp[Value.ownBlock]
 . intro e;simp[Value.ownBlock] at e;subst e;rw[i] at a;injection a with a;injection a with _ e _;exact c e
theorem Gv {w:X}{g b:Nat}{i:Array Value}{t e:Nat}{j:Nat×Nat}{n:Nat}{f:Nat->Value}(k:w.heap[g]? = M (.cells i t j))(h:w.rowIs b e n f)(d:t≠e):b≠g:=by
 rintro rfl;obtain⟨c,a,_⟩:=h;rw[k] at a;injection a with a;injection a with _ l _;exact d l
structure Turns (S:Nat->Prop)(w w':X):Prop where
 os:w'.os=w.os
 tape:w'.tape=w.tape
 output:w'.output=w.output
 size:w.heap.size<=w'.heap.size
 block:∀k,k<w.heap.size->¬S k->w'.heap[k]? = w.heap[k]?
def gM (S:Nat->Prop)(w:X):Nat->Prop:=fun k=>S k∨w.heap.size<=k
section
variable {S S':Nat->Prop} {w w1 w':X}
theorem Turns.refl (S:Nat->Prop)(w:X):Turns S w w:=⟨rfl,rfl,rfl,aL _,fun _ _ _=>rfl⟩
theorem Turns.mono (h:Turns S w w')(a:∀k,S k->S' k):Turns S' w w':=⟨h.os,h.tape,h.output,h.size,fun k b c=>h.block k b (fun e=>c (a k e))⟩
theorem Turns.trans (h:Turns S w w1)(k:Turns S' w1 w')(c:∀i,S' i->i<w.heap.size->S i):Turns S w w' :=
 ⟨k.os.trans h.os,k.tape.trans h.tape,k.output.trans h.output,dF h.size k.size,fun i a b=>(k.block i (cu a h.size) (fun e=>b (c i e a))).trans (h.block i a b)⟩
theorem Turns.then_ (h:Turns S w w1)(k:Turns (gM S w) w1 w'):Turns S w w':=h.trans k (fun i e a=>by
 rcases e with e | e
 . exact e
 . omega)
theorem Turns.iY {row:Option Nat}(h:w.grownBy w' row)(a:∀k,row=M k->S k):Turns S w w':=⟨h.os,h.tape,h.output,h.size,fun k b c=>h.block k b (fun e=>c (a k e.symm))⟩
theorem Turns.of_below (h:Below w.heap.size w w'):Turns S w w':=⟨h.os,h.tape,h.output,h.size,fun k a _=>h.block k a⟩
theorem Turns.drewN (S:Nat->Prop)(w:X)(n:Nat):Turns S w (w.drewN n):=⟨rfl,rfl,rfl,aL _,fun _ _ _=>rfl⟩
theorem Turns.setCell (S:Nat->Prop)(w:X)(a:Addr)(v:Value)(h:S a.block):Turns S w (w.setCell a v):=⟨rfl,rfl,rfl,by simp[World.setCell],fun k _ b=>gB w a k v (fun e=>b (by rw[e];exact h))⟩
theorem Turns.below {B:Nat}(h:Turns S w w')(a:∀k,S k->B<=k)(b:B<=w.heap.size):Below B w w':=⟨h.os,h.tape,h.output,h.size,fun k c=>h.block k (by omega) (fun e=>by have:=a k e;omega)⟩
theorem Turns.row (h:Turns S w w'){k:Nat}{o:Obj}(a:w.heap[k]? = M o)(b:¬S k):w'.heap[k]? = M o:=(h.block k (aK.1 a).1 b).trans a
theorem iD.turns {b t:Nat}{ao:aj}{cap:Nat}{l:au}(h:iD w b t ao cap l)(f:Turns S w w')(ha:∀a,ao=M a->¬S a.block):iD w' b t ao cap l:=by
 refine⟨h.1,?_⟩;rcases h.2 with i | ⟨g,c,d,e,j,k,r⟩
 . exact A i
 . refine R ⟨g,c,d,e,j,?_,r⟩;injection e with m n o;exact f.row k (ha _ m)
theorem gU.turns {b t k:Nat}{ao:aj}{cap n:Nat}{xs:List Value}(h:gU w b t k ao cap n xs)(f:Turns S w w')(ha:∀a,ao=M a->¬S a.block):gU w' b t k ao cap n xs:=by
 refine⟨h.1,?_⟩;rcases h.2 with i | ⟨g,c,d,e,j,l,r⟩
 . exact A i
 . refine R ⟨g,c,d,e,j,?_,r⟩;injection e with m o p;exact f.row l (ha _ m)
theorem iG.turns {ao:aj}{cap:Nat}{l:au}(h:iG w ao cap l)(c:Turns S w w')(ha:∀a,ao=M a->¬S a.block):iG w' ao cap l :=
 h.move fun a e v j b=>by
  have d:=c.block (a.add j).block (fZ w _ b) (by rw[add_block];exact ha a e);rw[gF d];exact b
theorem jm.turns {ao:aj}{cap n:Nat}{xs:List Value}(h:jm w ao cap n xs)(c:Turns S w w')(ha:∀a,ao=M a->¬S a.block):jm w' ao cap n xs :=
 h.move fun a e v j b=>by
  have d:=c.block (a.add j).block (fZ w _ b) (by rw[add_block];exact ha a e);rw[gF d];exact b
end
structure nD (w:X)(S:Nat->Prop)(ao:aj)(cap n:Nat)(xs:List Value):Prop where
 is:jm w ao cap n xs
 mem:xs≠[]->∀a,ao=M a->S a.block
structure jZ (w:X)(S:Nat->Prop)(ao:aj)(cap:Nat)(l:au):Prop where
 is:iG w ao cap l
 mem:l≠[]->∀a,ao=M a->S a.block
def gY (w:X)(S:Nat->Prop)(t:Nat)(ao:aj)(cap:Nat)(l:au):Prop :=
 (l≠[]∧iD w 0 t ao cap l∧∀a,ao=M a->S a.block)∨(l=[]∧cap=0)
section
variable {w w':X} {S S':Nat->Prop} {t:Nat} {ao:aj} {cap n:Nat} {xs:List Value} {l:au}
theorem nD.nil (w:X)(S:Nat->Prop):nD w S U 0 0 []:=⟨jm.nil w,fun e=>absurd rfl e⟩
theorem jZ.nil (w:X)(S:Nat->Prop):jZ w S U 0 []:=⟨iG.nil w,fun e=>absurd rfl e⟩
theorem gY.nil (w:X)(S:Nat->Prop)(t:Nat):gY w S t U 0 []:=R ⟨rfl,rfl⟩
theorem nD.mono (h:nD w S ao cap n xs)(c:∀k,k<w.heap.size->S k->S' k):nD w S' ao cap n xs:=⟨h.is,fun b a e=>by
 refine c _ ?_ (h.mem b a e);subst e;cases xs with
 | nil=>exact absurd rfl b
 | cons u r =>
   have:=fZ w _ (h.is.cell (j:=0) rfl);rwa[add_block] at this⟩
theorem jZ.mono (h:jZ w S ao cap l)(c:∀k,k<w.heap.size->S k->S' k):jZ w S' ao cap l:=⟨h.is,fun b a e=>by
 refine c _ ?_ (h.mem b a e);subst e;cases l with
 | nil=>exact absurd rfl b
 | cons u r =>
   have:=fZ w _ (h.is.cell 0 (by simp));rwa[add_block] at this⟩
theorem gY.mono (h:gY w S t ao cap l)(c:∀k,k<w.heap.size->S k->S' k):gY w S' t ao cap l:=by
 rcases h with ⟨d,b,f⟩ | h
 . exact A ⟨d,b,fun a e=>c _ (b.block a e).2 (f a e)⟩
 . exact R h
theorem jm.empty (w:X)(h:jm w' ao cap n []):jm w ao cap n []:=⟨h.1,h.2.1,fun j u a=>by simp at a⟩
theorem iG.empty (w:X)(h:iG w' ao cap []):iG w ao cap []:=⟨h.1,h.2.1,fun j a=>by simp at a⟩
theorem nD.turns (h:nD w S ao cap n xs)(c:Turns S' w w')(d:∀k,S k->¬S' k):nD w' S ao cap n xs:=by
 refine⟨?_,h.mem⟩;by_cases b:xs=[]
 . subst b;exact jm.empty w' h.is
 . exact h.is.turns c (fun a e=>d _ (h.mem b a e))
theorem jZ.turns (h:jZ w S ao cap l)(c:Turns S' w w')(d:∀k,S k->¬S' k):jZ w' S ao cap l:=by
 refine⟨?_,h.mem⟩;by_cases b:l=[]
 . subst b;exact iG.empty w' h.is
 . exact h.is.turns c (fun a e=>d _ (h.mem b a e))
theorem gY.turns (h:gY w S t ao cap l)(c:Turns S' w w')(d:∀k,S k->¬S' k):gY w' S t ao cap l:=by
 rcases h with ⟨f,g,b⟩ | h
 . exact A ⟨f,g.turns c (fun a e=>d _ (b a e)),b⟩
 . exact R h
theorem gY.wZ (h:gY w S t ao cap l):iG w ao cap l:=by
 rcases h with ⟨_,a,_⟩ | ⟨rfl,rfl⟩
 . exact a.wZ
 . exact⟨aL _,fun _=>rfl,fun j b=>by simp at b⟩
theorem gY.adW (h:gY w S t ao cap l):jZ w S ao cap l:=⟨h.wZ,fun b a e=>by
 rcases h with ⟨_,_,c⟩ | ⟨d,_⟩
 . exact c a e
 . exact absurd d b⟩
end
structure xY (w:X)(S:Nat->Prop)(e:iM)(s:EvS):Prop where
 fields:nD w S s.fo s.gL e.fields.length (gT e.fields)
 bytes:jZ w S s.bo s.gJ e.bytes
 iq:jZ w S s.po s.jy e.iq
theorem xY.mono {w:X}{S S':Nat->Prop}{e:iM}{s:EvS}(h:xY w S e s)(a:∀k,k<w.heap.size->S k->S' k):xY w S' e s:=⟨h.fields.mono a,h.bytes.mono a,h.iq.mono a⟩
theorem xY.turns {w w':X}{S S':Nat->Prop}{e:iM}{s:EvS}(h:xY w S e s)(a:Turns S' w w')(b:∀k,S k->¬S' k):xY w' S e s:=⟨h.fields.turns a b,h.bytes.turns a b,h.iq.turns a b⟩
def iW (ps:List (iM×EvS)):List Value:=ps.flatMap fun p=>p.1.cells p.2
theorem mW (a:List (iM×EvS)):(iW a).length=a.length*12:=by
 induction a with
 | nil=>rfl
 | cons p t b =>
   have e:(p.1.cells p.2).length=12:=rfl;simp only[iW,aU,aV,aW] at b ⊢;rw[b,e];omega
theorem mX (a b:List (iM×EvS)):iW (a++b)=iW a++iW b:=by simp[iW]
theorem cells_one (e:iM)(s:EvS):∀u∈e.cells s,u.oneCell'=true:=by
 intro u a;simp only[iM.cells,fA,List.not_mem_nil,or_false] at a;rcases a with rfl | rfl | rfl | rfl | rfl | rfl | rfl | rfl | rfl | rfl | rfl | rfl <;> rfl
theorem rA:∀(a:List (iM×EvS)) (i:Nat) (b:i<a.length) (j:Nat),j<12->(iW a)[i*12+j]? = (a[i].1.cells a[i].2)[j]?
 | p :: t, 0, _, j, hj => by
   show(p.1.cells p.2++iW t)[0*12+j]? = _;rw[aX (by rw[show(p.1.cells p.2).length=12 from rfl];omega),aY,aZ];rfl
 | p :: t, i + 1, b, j, hj => by
   show(p.1.cells p.2++iW t)[(i+1)*12+j]? = _;rw[bq (by rw[show(p.1.cells p.2).length=12 from rfl];omega),show(p.1.cells p.2).length=12 from rfl,show(i+1)*12+j-12=i*12+j by omega];exact rA t i (by simpa using b) j hj
theorem iM.made (e:iM)(s:EvS)(W:X)(t:Nat)(a:Nat×Nat){k:Nat}(b:W.heap.size=k):jm (W.alloc (.cells #[.int .i64 e.kind,V e.method,V e.target,.int .i64 e.minor,.slice s.fo e.fields.length s.gL,.int .i64 e.length,.slice s.bo e.bytes.length s.gJ,V e.kV,V e.kI,V e.ptype,.slice s.po e.iq.length s.jy,.int .i64 e.code] t a)) (M ⟨k,0,U⟩) 1 1 (e.cells s):=by
 subst b;exact jm.made W _ 1 t a
def lastB (e:iM)(s:EvS):Option Nat:=if e.bytes=[] then U else gK s.bo
inductive jQ (w:X)(S:Nat->Prop)(tE tb:Nat):aj->Nat->List iM->Prop
 | bare:jQ w S tE tb U 0 []
 | laid (q:List (iM×EvS)) (e:iM) (s:EvS) (g cap:Nat) (own:gU w 0 tE 12 (M ⟨g,0,U⟩) cap (q.length+1) (iW (q++[(e,s)]))) (mem:S g)
  (ahead:∀p∈q,xY w (fun k=>(S k∧k≠g)∧lastB e s≠M k) p.1 p.2)
  (fields:nD w (fun k=>(S k∧k≠g)∧lastB e s≠M k) s.fo s.gL e.fields.length (gT e.fields))
  (iq:jZ w (fun k=>(S k∧k≠g)∧lastB e s≠M k) s.po s.jy e.iq)
  (bytes:gY w (fun k=>S k∧k≠g) tb s.bo s.gJ e.bytes):jQ w S tE tb (M ⟨g,0,U⟩) cap (q.map (·.1)++[e])
section
variable {w w':X} {S S':Nat->Prop} {tE tb:Nat} {ao:aj} {cap:Nat} {es:List iM}
theorem jQ.turns (h:jQ w S tE tb ao cap es)(f:Turns S' w w')(i:∀k,S k->¬S' k):jQ w' S tE tb ao cap es:=by
 cases h with
 | bare=>exact .bare
 | laid q e s g cap own j c b l d =>
   exact .laid q e s g cap (own.turns f (fun a e=>by injection e with e;subst e;exact i _ j)) j (fun p m=>(c p m).turns f (fun k e=>i k e.1.1)) (b.turns f (fun k e=>i k e.1.1)) (l.turns f (fun k e=>i k e.1.1)) (d.turns f (fun k e=>i k e.1))
theorem jQ.mono (h:jQ w S tE tb ao cap es)(f:∀k,k<w.heap.size->S k->S' k):jQ w S' tE tb ao cap es:=by
 cases h with
 | bare=>exact .bare
 | laid q e s g cap own i b a l c =>
   have d:∀k,k<w.heap.size->((S k∧k≠g)∧lastB e s≠M k)->((S' k∧k≠g)∧lastB e s≠M k):=fun k j e=>⟨⟨f k j e.1.1,e.1.2⟩,e.2⟩;exact .laid q e s g cap own (f g (own.block _ rfl).2 i) (fun p m=>(b p m).mono d) (a.mono d) (l.mono d) (c.mono (fun k j e=>⟨f k j e.1,e.2⟩))
theorem jQ.stay (h:jQ w S tE tb ao cap es)(a:Below w.heap.size w w'):jQ w' S tE tb ao cap es:=h.turns (Turns.of_below (S:=fun _=>False) a) (fun _ _ e=>e)
theorem jQ.own (h:jQ w S tE tb ao cap es):∃j:List (iM×EvS),j.map (·.1)=es∧gU w 0 tE 12 ao cap es.length (iW j)∧(∀a,ao=M a->S a.block)∧∀p∈j,xY w (fun k=>S k∧gK ao≠M k) p.1 p.2:=by
 cases h with
 | bare=>exact⟨[],rfl,gU.nil _ _ _ _,fun a e=>(by cases e),fun p c=>(by cases c)⟩
 | laid q e s g cap own l d b n f =>
   refine⟨q++[(e,s)],by simp,by simpa using own,fun a e=>(by injection e with e;subst e;exact l),fun p c=>?_⟩;have m:∀k,k<w.heap.size->((S k∧k≠g)∧lastB e s≠M k)->(S k∧gK (M ⟨g,0,U⟩)≠M k):=fun k _ e=>⟨e.1.1,fun i=>by injection i with i;exact e.1.2 i.symm⟩;rcases bA.1 c with c | c
   . exact(d p c).mono m
   . simp at c;subst c;exact⟨b.mono m,f.adW.mono (fun k _ e=>⟨e.1,fun i=>by injection i with i;exact e.2 i.symm⟩),n.mono m⟩
theorem jQ.last {q:List iM}{x:iM}(h:jQ w S tE tb ao cap es)(f:es=q++[x]):∃(b:List (iM×EvS)) (s:EvS) (g:Nat),b.map (·.1)=q∧ao=M ⟨g,0,U⟩ ∧
 gU w 0 tE 12 (M ⟨g,0,U⟩) cap (b.length+1) (iW (b++[(x,s)]))∧S g∧(∀p∈b,xY w (fun k=>(S k∧k≠g)∧lastB x s≠M k) p.1 p.2) ∧
 nD w (fun k=>(S k∧k≠g)∧lastB x s≠M k) s.fo s.gL x.fields.length (gT x.fields)∧jZ w (fun k=>(S k∧k≠g)∧lastB x s≠M k) s.po s.jy x.iq∧gY w (fun k=>S k∧k≠g) tb s.bo s.gJ x.bytes:=by
 cases h with
 | bare=>simp at f
 | laid b e s g cap own c a fields i bytes =>
   obtain⟨j,d⟩:=bG f rfl;injection d with d _;subst d;exact⟨b,s,g,j,rfl,own,c,a,fields,i,bytes⟩
theorem jQ.more {N:Nat->Prop}{i:List (iM×EvS)}{gV:aj}{b n:Nat}{e:iM}{s:EvS}
 (B:∀a,ao=M a->S a.block) (C:∀p∈i,xY w (fun k=>S k∧gK ao≠M k) p.1 p.2)
 (D:nD w (fun k=>N k∧lastB e s≠M k) s.fo s.gL e.fields.length (gT e.fields)) (o:jZ w (fun k=>N k∧lastB e s≠M k) s.po s.jy e.iq) (x:gY w N tb s.bo s.gJ e.bytes)
 (j:∀k,S k->¬N k) (y:gU w' 0 tE 12 gV b n (iW (i++[(e,s)]))) (G:n=i.length+1)
 (H:w.grownBy w' (gK ao)) (q:gK gV=gK ao∨gK gV=M w.heap.size) :
 jQ w' (fun k=>S k∨N k∨k=w.heap.size) tE tb gV b (i.map (·.1)++[e]):=by
 subst G;have m:Turns (fun k=>gK ao=M k) w w':=Turns.iY H (fun k e=>e);have l:∀k,gK ao=M k->S k:=fun k e=>by
  cases ao with
  | none=>cases e
  | some a=>injection e with e;subst e;exact B a rfl
 obtain⟨g,rfl⟩:∃g,gV=M ⟨g,0,U⟩:=by
  rcases y.2 with ⟨_,h⟩ | ⟨g,cap,L,h,_⟩
  . omega
  . injection h with h _ _;exact⟨g,h⟩
 have r:gK ao=M g∨g=w.heap.size:=by
  rcases q with h | h
  . exact A h.symm
  . injection h with h;exact R h
 have c:∀k,lastB e s=M k->N k:=fun k h=>by
  unfold lastB at h;split at h
  . cases h
  . rcases x with ⟨_,_,O⟩ | ⟨P,_⟩
    . cases t:s.bo with
      | none=>rw[t] at h;cases h
      | some a=>rw[t] at h;injection h with h;subst h;exact O a t
    . contradiction
 have u:∀k,k<w.heap.size->N k->k≠g:=fun k d v e=>by
  subst e;rcases r with h | h
  . exact j k (l k h) v
  . omega
 refine .laid i e s g b y ?_ (fun p o=>?_) ?_ ?_ ?_
 . rcases r with h | h
   . exact A (l g h)
   . exact R (R h)
 . refine((C p o).mono (S':=fun k=>((S k∨N k∨k=w.heap.size)∧k≠g)∧lastB e s≠M k∧gK ao≠M k) (fun k d h=>⟨⟨A h.1,fun e=>?_⟩,fun f=>j k h.1 (c k f),h.2⟩) |>.turns m (fun k h=>h.2.2)).mono (fun k _ h=>⟨h.1,h.2.1⟩);subst e;rcases r with z | z
   . exact h.2 z
   . omega
 . exact(D.mono (S':=fun k=>((S k∨N k∨k=w.heap.size)∧k≠g)∧lastB e s≠M k∧N k) (fun k d h=>⟨⟨R (A h.1),u k d h.1⟩,h.2,h.1⟩) |>.turns m (fun k h f=>j k (l k f) h.2.2)).mono (fun k _ h=>⟨h.1,h.2.1⟩)
 . exact(o.mono (S':=fun k=>((S k∨N k∨k=w.heap.size)∧k≠g)∧lastB e s≠M k∧N k) (fun k d h=>⟨⟨R (A h.1),u k d h.1⟩,h.2,h.1⟩) |>.turns m (fun k h f=>j k (l k f) h.2.2)).mono (fun k _ h=>⟨h.1,h.2.1⟩)
 . exact(x.mono (S':=fun k=>((S k∨N k∨k=w.heap.size)∧k≠g)∧N k) (fun k d h=>⟨⟨R (A h),u k d h⟩,h⟩) |>.turns m (fun k h f=>j k (l k f) h.2)).mono (fun k _ h=>h.1)
end
def nQ (w:X)(S:Nat->Prop)(tE:Nat)(ao:aj)(cap:Nat)(es:List iM):Prop :=
 ∃ps:List (iM×EvS),ps.map (·.1)=es∧gU w 0 tE 12 ao cap es.length (iW ps)∧(∀a,ao=M a->S a.block)∧∀p∈ps,xY w (fun k=>S k∧gK ao≠M k) p.1 p.2
section
variable {w w':X} {S S' N:Nat->Prop} {tE tb:Nat} {ao jw gV:aj} {cap cap2 cap' n:Nat} {es es2:List iM}
theorem jQ.all (h:jQ w S tE tb ao cap es):nQ w S tE ao cap es:=h.own
theorem nQ.turns (h:nQ w S tE ao cap es)(b:Turns S' w w')(c:∀k,S k->¬S' k):nQ w' S tE ao cap es:=by
 obtain⟨f,g,i,d,j⟩:=h;exact⟨f,g,i.turns b (fun a e=>c _ (d a e)),d,fun p l=>(j p l).turns b (fun k e=>c k e.1)⟩
theorem nQ.mono (h:nQ w S tE ao cap es)(b:∀k,k<w.heap.size->S k->S' k):nQ w S' tE ao cap es:=by
 obtain⟨d,f,c,g,i⟩:=h;exact⟨d,f,c,fun a e=>b _ (c.block a e).2 (g a e),fun p j=>(i p j).mono (fun k l e=>⟨b k l e.1,e.2⟩)⟩
theorem nQ.abt (h:nQ w S tE ao cap es):FT w ao cap es:=by
 obtain⟨d,rfl,g,_,k⟩:=h;have e:=g.nP;refine⟨e.1,e.2.1,fun j l=>?_⟩;have c:j<d.length:=by simpa using l
 have m:0<(iW d).length:=by rw[mW];omega
 obtain⟨b,o,rfl,p⟩:=e.lit m;refine⟨b,o,d[j].2,rfl,?_⟩;rw[aF];have a:=k _ (aB c);refine⟨fun i u f=>?_,a.fields.is,a.bytes.is,a.iq.is⟩;have q:i<12:=(aP.1 f).1;rw[<-rA _ j c i q] at f;have:=p _ _ f;rw[bK];exact this
theorem nQ.more {c ps2:List (iM×EvS)}(m:∀a,ao=M a->S a.block)(q:∀p∈c,xY w (fun k=>S k∧gK ao≠M k) p.1 p.2)(r:∀p∈ps2,xY w N p.1 p.2)(s:∀k,S k->¬N k)
 (t:gU w' 0 tE 12 gV cap' n (iW c++iW ps2)) (u:n=c.length+ps2.length) (v:w.grownBy w' (gK ao)) (d:gK gV=gK ao∨gK gV=M w.heap.size) :
 nQ w' (fun k=>S k∨N k∨k=w.heap.size) tE gV cap' (c.map (·.1)++ps2.map (·.1)):=by
 subst u;have o:Turns (fun k=>gK ao=M k) w w':=Turns.iY v (fun k e=>e);have f:∀k,k<w.heap.size->gK ao≠M k->gK gV≠M k:=fun k b h e=>by
  rcases d with g | g
  . rw[g] at e;exact h e
  . rw[g] at e;injection e with e;omega
 refine⟨c++ps2,by simp,?_,fun a e=>?_,fun p i=>?_⟩
 . rw[mX];simpa using t
 . subst e;rcases d with g | g
   . cases ao with
     | none=>simp[gK] at g
     | some l=>simp only[gK,bT] at g;rw[g];exact A (m l rfl)
   . simp only[gK,bT] at g;exact R (R g)
 . rcases bA.1 i with i | i
   . exact((q p i).mono (S':=fun k=>(S k∧gK ao≠M k)∧k<w.heap.size) (fun k b e=>⟨e,b⟩)).turns o (fun k e=>e.1.2) |>.mono (fun k _ e=>⟨A e.1.1,f k e.2 e.1.2⟩)
   . have j:∀k,N k->gK ao≠M k:=fun k b e=>by
      cases ao with
      | none=>simp[gK] at e
      | some l=>simp only[gK,bT] at e;exact s _ (m l rfl) (e▸b)
     exact((r p i).mono (S':=fun k=>N k∧k<w.heap.size) (fun k b e=>⟨e,b⟩)).turns o (fun k e=>j k e.1) |>.mono (fun k _ e=>⟨R (A e.1),f k e.2 (j k e.1)⟩)
end
def pF (w:X)(S:Nat->Prop)(tE:Nat)(ao:aj)(cap:Nat)(es:List iM):Prop :=
 ∃ps:List (iM×EvS),ps.map (·.1)=es∧gU w 0 tE 12 ao cap es.length (iW ps)∧(∀a,ao=M a->S a.block)∧(∀p∈ps,xY w (fun k=>S k∧gK ao≠M k) p.1 p.2)∧∀p∈ps,p.2.po=U∧p.2.jy=0
section
variable {w w':X} {S S' N:Nat->Prop} {tE:Nat} {ao gV:aj} {cap cap' n:Nat} {es:List iM}
theorem pF.all (h:pF w S tE ao cap es):nQ w S tE ao cap es:=by
 obtain⟨a,b,c,d,e,_⟩:=h;exact⟨a,b,c,d,e⟩
theorem pF.nil (w:X)(S:Nat->Prop)(tE:Nat):pF w S tE U 0 []:=⟨[],rfl,gU.nil _ _ _ _,fun a e=>(by cases e),fun p b=>(by cases b),fun p b=>(by cases b)⟩
theorem pF.turns (h:pF w S tE ao cap es)(b:Turns S' w w')(c:∀k,S k->¬S' k):pF w' S tE ao cap es:=by
 obtain⟨f,g,i,d,j,l⟩:=h;exact⟨f,g,i.turns b (fun a e=>c _ (d a e)),d,fun p m=>(j p m).turns b (fun k e=>c k e.1),l⟩
theorem pF.mono (h:pF w S tE ao cap es)(b:∀k,k<w.heap.size->S k->S' k):pF w S' tE ao cap es:=by
 obtain⟨d,f,c,g,i,j⟩:=h;exact⟨d,f,c,fun a e=>b _ (c.block a e).2 (g a e),fun p l=>(i p l).mono (fun k m e=>⟨b k m e.1,e.2⟩),j⟩
theorem pF.more {c ps2:List (iM×EvS)}(m:∀a,ao=M a->S a.block)(q:∀p∈c,xY w (fun k=>S k∧gK ao≠M k) p.1 p.2)(r:∀p∈ps2,xY w N p.1 p.2)(s:∀k,S k->¬N k)
 (t:gU w' 0 tE 12 gV cap' n (iW c++iW ps2)) (u:n=c.length+ps2.length) (v:w.grownBy w' (gK ao)) (f:gK gV=gK ao∨gK gV=M w.heap.size) (x:∀p∈c,p.2.po=U∧p.2.jy=0) (y:∀p∈ps2,p.2.po=U∧p.2.jy=0) :
 pF w' (fun k=>S k∨N k∨k=w.heap.size) tE gV cap' (c.map (·.1)++ps2.map (·.1)):=by
 subst u;have o:Turns (fun k=>gK ao=M k) w w':=Turns.iY v (fun k e=>e);have i:∀k,k<w.heap.size->gK ao≠M k->gK gV≠M k:=fun k d h e=>by
  rcases f with g | g
  . rw[g] at e;exact h e
  . rw[g] at e;injection e with e;omega
 refine⟨c++ps2,by simp,?_,fun a e=>?_,fun p b=>?_,fun p b=>(bA.1 b).elim (x p) (y p)⟩
 . rw[mX];simpa using t
 . subst e;rcases f with g | g
   . cases ao with
     | none=>simp[gK] at g
     | some l=>simp only[gK,bT] at g;rw[g];exact A (m l rfl)
   . simp only[gK,bT] at g;exact R (R g)
 . rcases bA.1 b with b | b
   . exact((q p b).mono (S':=fun k=>(S k∧gK ao≠M k)∧k<w.heap.size) (fun k d e=>⟨e,d⟩)).turns o (fun k e=>e.1.2) |>.mono (fun k _ e=>⟨A e.1.1,i k e.2 e.1.2⟩)
   . have j:∀k,N k->gK ao≠M k:=fun k d e=>by
      cases ao with
      | none=>simp[gK] at e
      | some l=>simp only[gK,bT] at e;exact s _ (m l rfl) (e▸d)
     exact((r p b).mono (S':=fun k=>N k∧k<w.heap.size) (fun k d e=>⟨e,d⟩)).turns o (fun k e=>j k e.1) |>.mono (fun k _ e=>⟨R (A e.1),i k e.2 (j k e.1)⟩)
end
abbrev Ob:=X->(Nat->Prop)->Prop
structure lN (an:Ob):Prop where
 turns:∀{w w':X} {S S':Nat->Prop},an w S->Turns S' w w'->(∀k,S k->¬S' k)->an w' S
 mono:∀{w:X} {S S':Nat->Prop},an w S->(∀k,k<w.heap.size->S k->S' k)->an w S'
theorem lN.nE:lN (fun _ _=>True):=⟨fun _ _ _=>trivial,fun _ _=>trivial⟩
section
variable {C:Type} {κ:Nat->C} {w w':X} {an X':C->Ob} {c:C}
def jc (κ:Nat->C)(n:Nat)(c:C):Nat->C:=fun k=>if k<n then κ k else c
theorem iZ {n k:Nat}(h:k<n):jc κ n c k=κ k:=if_pos h
theorem qN {n k:Nat}(h:n<=k):jc κ n c k=c:=if_neg (by omega)
def Held (an:C->Ob)(κ:Nat->C)(w:X):Prop:=∀d,an d w (fun k=>κ k=d)
theorem Held.stay (L:∀d,lN (an d))(h:Held an κ w)(a:Below w.heap.size w w'):Held an κ w':=fun d=>(L d).turns (h d) (Turns.of_below (S:=fun _=>False) a) (fun _ _ e=>e)
theorem Held.act (L:∀d,lN (an d))(h:Held an κ w){T N:Nat->Prop}(f:Turns T w w')(g:∀k,T k->κ k=c)(i:lN (X' c))(j:X' c w' N)(l:∀k,N k->κ k=c∨w.heap.size<=k)(m:∀d,d≠c->X' d=an d):Held X' (jc κ w.heap.size c) w':=by
 intro d;by_cases b:d=c
 . subst b;refine i.mono j (fun k _ e=>?_);show jc κ w.heap.size d k=d;rcases aT k w.heap.size with a | a
   . rw[iZ a];rcases l k e with e | e
     . exact e
     . omega
   . exact qN a
 . rw[m d b];have n:=(L d).mono (h d) (S':=fun k=>κ k=d∧k<w.heap.size) (fun k a e=>⟨e,a⟩);have o:=(L d).turns n f (fun k e p=>b (e.1.symm.trans (g k p)));exact(L d).mono o (fun k _ e=>by show jc κ w.heap.size c k=d;rw[iZ e.2];exact e.1)
open Classical in
theorem Held.split (L:∀d,lN (an d))(h:Held an κ w){p e:C}(q:p≠e){T P E:Nat->Prop}(r:Turns T w w')(s:∀k,T k->κ k=p)(t:X' p w' P)(u:lN (X' p))(hd:∀k,P k->¬E k)(v:∀k,P k->κ k=p∨w.heap.size<=k)(l:∀k,E k->κ k=p∨w.heap.size<=k)
 (b:∀S:Nat->Prop,an e w' (fun k=>κ k=e∧k<w.heap.size)->(∀k,κ k=e∧k<w.heap.size->S k)->(∀k,E k->S k)->X' e w' S) (x:∀d,d≠p->d≠e->X' d=an d) :
 ∃f,Held X' f w'∧(∀k,k<w.heap.size->f k=κ k∨(κ k=p∧f k=e))∧∀k,w.heap.size<=k->f k=p∨f k=e:=by
 refine⟨fun k=>if E k then e else jc κ w.heap.size p k,fun d=>?_,fun k a=>?_,fun k a=>?_⟩
 . by_cases g:d=p
   . subst g;refine u.mono t (fun k _ a=>?_);show(if E k then e else jc κ w.heap.size d k)=d;rw[if_neg (hd k a)];rcases aT k w.heap.size with j | j
     . rw[iZ j];rcases v k a with i | i
       . exact i
       . omega
     . exact qN j
   . have m:∀k,κ k=d∧k<w.heap.size->(if E k then e else jc κ w.heap.size p k)=d:=fun k a=>by
      have y:¬E k:=fun i=>by
       rcases l k i with i | i
       . exact g (a.1.symm.trans i)
       . omega
      rw[if_neg y,iZ a.2];exact a.1
     have n:=(L d).turns ((L d).mono (h d) (S':=fun k=>κ k=d∧k<w.heap.size) (fun k a e=>⟨e,a⟩)) r (fun k e z=>g (e.1.symm.trans (s k z)));by_cases o:d=e
     . subst o;exact b _ n m (fun k a=>if_pos a)
     . rw[x d g o];exact(L d).mono n (fun k _ a=>m k a)
 . show(if E k then e else jc κ w.heap.size p k)=κ k∨_∧(if E k then e else jc κ w.heap.size p k)=e;by_cases b:E k
   . rcases l k b with i | i
     . exact R ⟨i,if_pos b⟩
     . omega
   . exact A (by rw[if_neg b,iZ a])
 . show(if E k then e else jc κ w.heap.size p k)=p∨(if E k then e else jc κ w.heap.size p k)=e;by_cases b:E k
   . exact R (if_pos b)
   . exact A (by rw[if_neg b,qN a])
end
section
end
end Go.Proofs.YtjmndjmhjleabaaGreatDoor