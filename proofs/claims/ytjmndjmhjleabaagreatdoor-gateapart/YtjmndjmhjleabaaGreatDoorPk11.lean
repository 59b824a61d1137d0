/- Small texts, one behind the other: Foot, MemO, MemA, MemC, MemJ. -/
import Derived.Test.YtjmndjmhjleabaaGreatDoorAl
import Derived.Test.YtjmndjmhjleabaaGreatDoorAm
import Derived.Test.YtjmndjmhjleabaaGreatDoorPk1
import Derived.Deep.OwnRows
import Derived.Laws.OwnMore
import Derived.Test.YtjmndjmhjleabaaGreatDoorPk9
namespace Go.Proofs.YtjmndjmhjleabaaGreatDoor
open Go.RowKit
theorem lG {w:World}{g:Nat}{cs:Array Value}{t:Nat}{fr:Nat×Nat}{base e size:Nat}{v:Value}{n:Nat}{xs:List Value}(hg:w.heap[g]? = some (.cells cs t fr))(h:w.ownsRow base e size v n xs)(hne:t≠e):v.ownBlock≠some g:=by
 rcases h.2 with ⟨rfl,_⟩ | ⟨g',cap,cur,rfl,_,hg',_⟩
 . simp[Value.ownBlock]
 . intro e;simp[Value.ownBlock] at e;subst e;rw[hg] at hg';injection hg' with hg';injection hg' with _ e _;exact hne e
theorem Gw {w:World}{g b:Nat}{cs:Array Value}{t e:Nat}{fr:Nat×Nat}{n:Nat}{f:Nat->Value}(hg:w.heap[g]? = some (.cells cs t fr))(h:w.rowIs b e n f)(hne:t≠e):b≠g:=by
 rintro rfl;obtain⟨c,hc,_⟩:=h;rw[hg] at hc;injection hc with hc;injection hc with _ e' _;exact hne e'
structure Turns (S:Nat->Prop)(w w':World):Prop where
 os:w'.os=w.os
 tape:w'.tape=w.tape
 output:w'.output=w.output
 size:w.heap.size<=w'.heap.size
 block:∀k,k<w.heap.size->¬S k->w'.heap[k]? = w.heap[k]?
def gN (S:Nat->Prop)(w:World):Nat->Prop:=fun k=>S k∨w.heap.size<=k
section
variable {S S':Nat->Prop} {w w1 w':World}
theorem Turns.refl (S:Nat->Prop)(w:World):Turns S w w:=⟨rfl,rfl,rfl,aM _,fun _ _ _=>rfl⟩
theorem Turns.mono (h:Turns S w w')(hs:∀k,S k->S' k):Turns S' w w':=⟨h.os,h.tape,h.output,h.size,fun k hk hn=>h.block k hk (fun e=>hn (hs k e))⟩
theorem Turns.trans (h:Turns S w w1)(k:Turns S' w1 w')(hs:∀i,S' i->i<w.heap.size->S i):Turns S w w' :=
 ⟨k.os.trans h.os,k.tape.trans h.tape,k.output.trans h.output,dG h.size k.size,fun i hi hn=>(k.block i (cB hi h.size) (fun e=>hn (hs i e hi))).trans (h.block i hi hn)⟩
theorem Turns.then_ (h:Turns S w w1)(k:Turns (gN S w) w1 w'):Turns S w w':=h.trans k (fun i e hi=>by
 rcases e with e | e
 . exact e
 . omega)
theorem Turns.iZ {row:Option Nat}(h:w.grownBy w' row)(hr:∀k,row=some k->S k):Turns S w w':=⟨h.os,h.tape,h.output,h.size,fun k hk hn=>h.block k hk (fun e=>hn (hr k e.symm))⟩
theorem Turns.of_below (h:aj w w'):Turns S w w':=⟨h.os,h.tape,h.output,h.size,fun k hk _=>h.block k hk⟩
theorem Turns.drewN (S:Nat->Prop)(w:World)(n:Nat):Turns S w (w.drewN n):=⟨rfl,rfl,rfl,aM _,fun _ _ _=>rfl⟩
theorem Turns.setCell (S:Nat->Prop)(w:World)(a:Addr)(v:Value)(h:S a.block):Turns S w (w.setCell a v):=⟨rfl,rfl,rfl,by simp[World.setCell],fun k _ hn=>gD w a k v (fun e=>hn (by rw[e];exact h))⟩
theorem Turns.below {B:Nat}(h:Turns S w w')(hs:∀k,S k->B<=k)(hB:B<=w.heap.size):Below B w w':=⟨h.os,h.tape,h.output,h.size,fun k hk=>h.block k (by omega) (fun e=>by have:=hs k e;omega)⟩
theorem Turns.row (h:Turns S w w'){k:Nat}{o:Obj}(hk:w.heap[k]? = some o)(hn:¬S k):w'.heap[k]? = some o:=(h.block k (aL.1 hk).1 hn).trans hk
theorem iF.turns {base t:Nat}{ao:ak}{cap:Nat}{l:av}(h:iF w base t ao cap l)(ht:Turns S w w')(ha:∀a,ao=some a->¬S a.block):iF w' base t ao cap l:=by
 refine⟨h.1,?_⟩;rcases h.2 with hn | ⟨g,cap',cur,e,hg,hh,r⟩
 . exact Or.inl hn
 . refine Or.inr ⟨g,cap',cur,e,hg,?_,r⟩;injection e with e1 e2 e3;exact ht.row hh (ha _ e1)
theorem gV.turns {base t k:Nat}{ao:ak}{cap n:Nat}{xs:List Value}(h:gV w base t k ao cap n xs)(ht:Turns S w w')(ha:∀a,ao=some a->¬S a.block):gV w' base t k ao cap n xs:=by
 refine⟨h.1,?_⟩;rcases h.2 with hn | ⟨g,cap',cur,e,hg,hh,r⟩
 . exact Or.inl hn
 . refine Or.inr ⟨g,cap',cur,e,hg,?_,r⟩;injection e with e1 e2 e3;exact ht.row hh (ha _ e1)
theorem iH.turns {ao:ak}{cap:Nat}{l:av}(h:iH w ao cap l)(ht:Turns S w w')(ha:∀a,ao=Option.some a->¬S a.block):iH w' ao cap l :=
 h.move fun a e v j hv=>by
  have hb:=ht.block (a.add j).block (gq w _ hv) (by rw[add_block];exact ha a e);rw[gG hb];exact hv
theorem jo.turns {ao:ak}{cap n:Nat}{xs:List Value}(h:jo w ao cap n xs)(ht:Turns S w w')(ha:∀a,ao=Option.some a->¬S a.block):jo w' ao cap n xs :=
 h.move fun a e v j hv=>by
  have hb:=ht.block (a.add j).block (gq w _ hv) (by rw[add_block];exact ha a e);rw[gG hb];exact hv
end
structure nE (w:World)(S:Nat->Prop)(ao:ak)(cap n:Nat)(xs:List Value):Prop where
 is:jo w ao cap n xs
 mem:xs≠[]->∀a,ao=some a->S a.block
structure ko (w:World)(S:Nat->Prop)(ao:ak)(cap:Nat)(l:av):Prop where
 is:iH w ao cap l
 mem:l≠[]->∀a,ao=some a->S a.block
def gZ (w:World)(S:Nat->Prop)(t:Nat)(ao:ak)(cap:Nat)(l:av):Prop :=
 (l≠[]∧iF w 0 t ao cap l∧∀a,ao=some a->S a.block)∨(l=[]∧cap=0)
section
variable {w w':World} {S S':Nat->Prop} {t:Nat} {ao:ak} {cap n:Nat} {xs:List Value} {l:av}
theorem nE.nil (w:World)(S:Nat->Prop):nE w S none 0 0 []:=⟨jo.nil w,fun e=>absurd rfl e⟩
theorem ko.nil (w:World)(S:Nat->Prop):ko w S none 0 []:=⟨iH.nil w,fun e=>absurd rfl e⟩
theorem gZ.nil (w:World)(S:Nat->Prop)(t:Nat):gZ w S t none 0 []:=Or.inr ⟨rfl,rfl⟩
theorem nE.mono (h:nE w S ao cap n xs)(hs:∀k,k<w.heap.size->S k->S' k):nE w S' ao cap n xs:=⟨h.is,fun hx a e=>by
 refine hs _ ?_ (h.mem hx a e);subst e;cases xs with
 | nil=>exact absurd rfl hx
 | cons u r =>
   have:=gq w _ (h.is.cell (j:=0) rfl);rwa[add_block] at this⟩
theorem ko.mono (h:ko w S ao cap l)(hs:∀k,k<w.heap.size->S k->S' k):ko w S' ao cap l:=⟨h.is,fun hx a e=>by
 refine hs _ ?_ (h.mem hx a e);subst e;cases l with
 | nil=>exact absurd rfl hx
 | cons u r =>
   have:=gq w _ (h.is.cell 0 (by simp));rwa[add_block] at this⟩
theorem gZ.mono (h:gZ w S t ao cap l)(hs:∀k,k<w.heap.size->S k->S' k):gZ w S' t ao cap l:=by
 rcases h with ⟨h1,h2,h3⟩ | h
 . exact Or.inl ⟨h1,h2,fun a e=>hs _ (h2.block a e).2 (h3 a e)⟩
 . exact Or.inr h
theorem jo.empty (w:World)(h:jo w' ao cap n []):jo w ao cap n []:=⟨h.1,h.2.1,fun j u hj=>by simp at hj⟩
theorem iH.empty (w:World)(h:iH w' ao cap []):iH w ao cap []:=⟨h.1,h.2.1,fun j hj=>by simp at hj⟩
theorem nE.turns (h:nE w S ao cap n xs)(ht:Turns S' w w')(hs:∀k,S k->¬S' k):nE w' S ao cap n xs:=by
 refine⟨?_,h.mem⟩;by_cases hx:xs=[]
 . subst hx;exact jo.empty w' h.is
 . exact h.is.turns ht (fun a e=>hs _ (h.mem hx a e))
theorem ko.turns (h:ko w S ao cap l)(ht:Turns S' w w')(hs:∀k,S k->¬S' k):ko w' S ao cap l:=by
 refine⟨?_,h.mem⟩;by_cases hx:l=[]
 . subst hx;exact iH.empty w' h.is
 . exact h.is.turns ht (fun a e=>hs _ (h.mem hx a e))
theorem gZ.turns (h:gZ w S t ao cap l)(ht:Turns S' w w')(hs:∀k,S k->¬S' k):gZ w' S t ao cap l:=by
 rcases h with ⟨h1,h2,h3⟩ | h
 . exact Or.inl ⟨h1,h2.turns ht (fun a e=>hs _ (h3 a e)),h3⟩
 . exact Or.inr h
theorem gZ.xg (h:gZ w S t ao cap l):iH w ao cap l:=by
 rcases h with ⟨_,h2,_⟩ | ⟨rfl,rfl⟩
 . exact h2.xg
 . exact⟨aM _,fun _=>rfl,fun j hj=>by simp at hj⟩
theorem gZ.adX (h:gZ w S t ao cap l):ko w S ao cap l:=⟨h.xg,fun hl a e=>by
 rcases h with ⟨_,_,h3⟩ | ⟨h1,_⟩
 . exact h3 a e
 . exact absurd h1 hl⟩
end
structure xZ (w:World)(S:Nat->Prop)(e:iN)(s:EvS):Prop where
 fields:nE w S s.fo s.gM e.fields.length (gU e.fields)
 bytes:ko w S s.bo s.gK e.bytes
 iw:ko w S s.po s.jA e.iw
theorem xZ.mono {w:World}{S S':Nat->Prop}{e:iN}{s:EvS}(h:xZ w S e s)(hs:∀k,k<w.heap.size->S k->S' k):xZ w S' e s:=⟨h.fields.mono hs,h.bytes.mono hs,h.iw.mono hs⟩
theorem xZ.turns {w w':World}{S S':Nat->Prop}{e:iN}{s:EvS}(h:xZ w S e s)(ht:Turns S' w w')(hs:∀k,S k->¬S' k):xZ w' S e s:=⟨h.fields.turns ht hs,h.bytes.turns ht hs,h.iw.turns ht hs⟩
def iX (ps:List (iN×EvS)):List Value:=ps.flatMap fun p=>p.1.cells p.2
theorem mX (ps:List (iN×EvS)):(iX ps).length=ps.length*12:=by
 induction ps with
 | nil=>rfl
 | cons p t ih =>
   have e:(p.1.cells p.2).length=12:=rfl;simp only[iX,aV,aW,aX] at ih ⊢;rw[ih,e];omega
theorem mY (a b:List (iN×EvS)):iX (a++b)=iX a++iX b:=by simp[iX]
theorem cells_one (e:iN)(s:EvS):∀u∈e.cells s,u.oneCell'=true:=by
 intro u hu;simp only[iN.cells,fB,List.not_mem_nil,or_false] at hu;rcases hu with rfl | rfl | rfl | rfl | rfl | rfl | rfl | rfl | rfl | rfl | rfl | rfl <;> rfl
theorem rC:∀(ps:List (iN×EvS)) (i:Nat) (hi:i<ps.length) (j:Nat),j<12->(iX ps)[i*12+j]? = (ps[i].1.cells ps[i].2)[j]?
 | p :: t, 0, _, j, hj => by
   show(p.1.cells p.2++iX t)[0*12+j]? = _;rw[aY (by rw[show(p.1.cells p.2).length=12 from rfl];omega),aZ,bq];rfl
 | p :: t, i + 1, hi, j, hj => by
   show(p.1.cells p.2++iX t)[(i+1)*12+j]? = _;rw[bA (by rw[show(p.1.cells p.2).length=12 from rfl];omega),show(p.1.cells p.2).length=12 from rfl,show(i+1)*12+j-12=i*12+j by omega];exact rC t i (by simpa using hi) j hj
theorem iN.made (e:iN)(s:EvS)(W:World)(t:Nat)(fr:Nat×Nat){k:Nat}(hk:W.heap.size=k):jo (W.alloc (.cells #[.int .i64 e.kind,.string e.method,.string e.target,.int .i64 e.minor,.slice s.fo e.fields.length s.gM,.int .i64 e.length,.slice s.bo e.bytes.length s.gK,.string e.kW,.string e.kJ,.string e.ptype,.slice s.po e.iw.length s.jA,.int .i64 e.code] t fr)) (some ⟨k,0,none⟩) 1 1 (e.cells s):=by
 subst hk;exact jo.made W _ 1 t fr
def lastB (e:iN)(s:EvS):Option Nat:=if e.bytes=[] then none else gL s.bo
inductive jR (w:World)(S:Nat->Prop)(tE tb:Nat):ak->Nat->List iN->Prop
 | bare:jR w S tE tb none 0 []
 | laid (q:List (iN×EvS)) (e:iN) (s:EvS) (g cap:Nat) (own:gV w 0 tE 12 (some ⟨g,0,none⟩) cap (q.length+1) (iX (q++[(e,s)]))) (mem:S g)
  (ahead:∀p∈q,xZ w (fun k=>(S k∧k≠g)∧lastB e s≠some k) p.1 p.2)
  (fields:nE w (fun k=>(S k∧k≠g)∧lastB e s≠some k) s.fo s.gM e.fields.length (gU e.fields))
  (iw:ko w (fun k=>(S k∧k≠g)∧lastB e s≠some k) s.po s.jA e.iw)
  (bytes:gZ w (fun k=>S k∧k≠g) tb s.bo s.gK e.bytes):jR w S tE tb (some ⟨g,0,none⟩) cap (q.map (·.1)++[e])
section
variable {w w':World} {S S':Nat->Prop} {tE tb:Nat} {ao:ak} {cap:Nat} {es:List iN}
theorem jR.turns (h:jR w S tE tb ao cap es)(ht:Turns S' w w')(hs:∀k,S k->¬S' k):jR w' S tE tb ao cap es:=by
 cases h with
 | bare=>exact .bare
 | laid q e s g cap own mem ahead fields iw bytes =>
   exact .laid q e s g cap (own.turns ht (fun a e=>by injection e with e;subst e;exact hs _ mem)) mem (fun p hp=>(ahead p hp).turns ht (fun k e=>hs k e.1.1)) (fields.turns ht (fun k e=>hs k e.1.1)) (iw.turns ht (fun k e=>hs k e.1.1)) (bytes.turns ht (fun k e=>hs k e.1))
theorem jR.mono (h:jR w S tE tb ao cap es)(hs:∀k,k<w.heap.size->S k->S' k):jR w S' tE tb ao cap es:=by
 cases h with
 | bare=>exact .bare
 | laid q e s g cap own mem ahead fields iw bytes =>
   have hs2:∀k,k<w.heap.size->((S k∧k≠g)∧lastB e s≠Option.some k)->((S' k∧k≠g)∧lastB e s≠Option.some k):=fun k hk e=>⟨⟨hs k hk e.1.1,e.1.2⟩,e.2⟩;exact .laid q e s g cap own (hs g (own.block _ rfl).2 mem) (fun p hp=>(ahead p hp).mono hs2) (fields.mono hs2) (iw.mono hs2) (bytes.mono (fun k hk e=>⟨hs k hk e.1,e.2⟩))
theorem jR.stay (h:jR w S tE tb ao cap es)(hb:aj w w'):jR w' S tE tb ao cap es:=h.turns (Turns.of_below (S:=fun _=>False) hb) (fun _ _ e=>e)
theorem jR.own (h:jR w S tE tb ao cap es):∃ps:List (iN×EvS),ps.map (·.1)=es∧gV w 0 tE 12 ao cap es.length (iX ps)∧(∀a,ao=some a->S a.block)∧∀p∈ps,xZ w (fun k=>S k∧gL ao≠some k) p.1 p.2:=by
 cases h with
 | bare=>exact⟨[],rfl,gV.nil _ _ _ _,fun a e=>(by cases e),fun p hp=>(by cases hp)⟩
 | laid q e s g cap own mem ahead fields iw bytes =>
   refine⟨q++[(e,s)],by simp,by simpa using own,fun a e=>(by injection e with e;subst e;exact mem),fun p hp=>?_⟩;have hc:∀k,k<w.heap.size->((S k∧k≠g)∧lastB e s≠Option.some k)->(S k∧gL (Option.some ⟨g,0,Option.none⟩)≠Option.some k):=fun k _ e=>⟨e.1.1,fun e2=>by injection e2 with e2;exact e.1.2 e2.symm⟩;rcases bB.1 hp with hp | hp
   . exact(ahead p hp).mono hc
   . simp at hp;subst hp;exact⟨fields.mono hc,bytes.adX.mono (fun k _ e=>⟨e.1,fun e2=>by injection e2 with e2;exact e.2 e2.symm⟩),iw.mono hc⟩
theorem jR.last {q:List iN}{x:iN}(h:jR w S tE tb ao cap es)(he:es=q++[x]):∃(qs:List (iN×EvS)) (s:EvS) (g:Nat),qs.map (·.1)=q∧ao=some ⟨g,0,none⟩ ∧
 gV w 0 tE 12 (some ⟨g,0,none⟩) cap (qs.length+1) (iX (qs++[(x,s)]))∧S g∧(∀p∈qs,xZ w (fun k=>(S k∧k≠g)∧lastB x s≠some k) p.1 p.2) ∧
 nE w (fun k=>(S k∧k≠g)∧lastB x s≠some k) s.fo s.gM x.fields.length (gU x.fields)∧ko w (fun k=>(S k∧k≠g)∧lastB x s≠some k) s.po s.jA x.iw∧gZ w (fun k=>S k∧k≠g) tb s.bo s.gK x.bytes:=by
 cases h with
 | bare=>simp at he
 | laid qs e s g cap own mem ahead fields iw bytes =>
   obtain⟨h1,h2⟩:=bH he rfl;injection h2 with h2 _;subst h2;exact⟨qs,s,g,h1,rfl,own,mem,ahead,fields,iw,bytes⟩
theorem jR.more {N:Nat->Prop}{ps:List (iN×EvS)}{gW:ak}{cap' n:Nat}{e:iN}{s:EvS}
 (hA:∀a,ao=some a->S a.block) (hI:∀p∈ps,xZ w (fun k=>S k∧gL ao≠some k) p.1 p.2)
 (hf:nE w (fun k=>N k∧lastB e s≠some k) s.fo s.gM e.fields.length (gU e.fields)) (hp:ko w (fun k=>N k∧lastB e s≠some k) s.po s.jA e.iw) (hb:gZ w N tb s.bo s.gK e.bytes)
 (hN:∀k,S k->¬N k) (hO:gV w' 0 tE 12 gW cap' n (iX (ps++[(e,s)]))) (hn:n=ps.length+1)
 (hG:w.grownBy w' (gL ao)) (hat:gL gW=gL ao∨gL gW=some w.heap.size) :
 jR w' (fun k=>S k∨N k∨k=w.heap.size) tE tb gW cap' (ps.map (·.1)++[e]):=by
 subst hn;have hT:Turns (fun k=>gL ao=some k) w w':=Turns.iZ hG (fun k e=>e);have UJ:∀k,gL ao=some k->S k:=fun k e=>by
  cases ao with
  | none=>cases e
  | some a=>injection e with e;subst e;exact hA a rfl
 obtain⟨g,rfl⟩:∃g,gW=some ⟨g,0,none⟩:=by
  rcases hO.2 with ⟨_,h⟩ | ⟨g,cap,cur,h,_⟩
  . omega
  . injection h with h _ _;exact⟨g,h⟩
 have hg:gL ao=some g∨g=w.heap.size:=by
  rcases hat with h | h
  . exact Or.inl h.symm
  . injection h with h;exact Or.inr h
 have hlast:∀k,lastB e s=some k->N k:=fun k h=>by
  unfold lastB at h;split at h
  . cases h
  . rcases hb with ⟨_,_,h3⟩ | ⟨h1,_⟩
    . cases rD:s.bo with
      | none=>rw[rD] at h;cases h
      | some a=>rw[rD] at h;injection h with h;subst h;exact h3 a rD
    . contradiction
 have UK:∀k,k<w.heap.size->N k->k≠g:=fun k hk hNk e=>by
  subst e;rcases hg with h | h
  . exact hN k (UJ k h) hNk
  . omega
 refine .laid ps e s g cap' hO ?_ (fun p hp=>?_) ?_ ?_ ?_
 . rcases hg with h | h
   . exact Or.inl (UJ g h)
   . exact Or.inr (Or.inr h)
 . refine((hI p hp).mono (S':=fun k=>((S k∨N k∨k=w.heap.size)∧k≠g)∧lastB e s≠some k∧gL ao≠some k) (fun k hk h=>⟨⟨Or.inl h.1,fun e=>?_⟩,fun e2=>hN k h.1 (hlast k e2),h.2⟩) |>.turns hT (fun k h=>h.2.2)).mono (fun k _ h=>⟨h.1,h.2.1⟩);subst e;rcases hg with h2 | h2
   . exact h.2 h2
   . omega
 . exact(hf.mono (S':=fun k=>((S k∨N k∨k=w.heap.size)∧k≠g)∧lastB e s≠some k∧N k) (fun k hk h=>⟨⟨Or.inr (Or.inl h.1),UK k hk h.1⟩,h.2,h.1⟩) |>.turns hT (fun k h e2=>hN k (UJ k e2) h.2.2)).mono (fun k _ h=>⟨h.1,h.2.1⟩)
 . exact(hp.mono (S':=fun k=>((S k∨N k∨k=w.heap.size)∧k≠g)∧lastB e s≠some k∧N k) (fun k hk h=>⟨⟨Or.inr (Or.inl h.1),UK k hk h.1⟩,h.2,h.1⟩) |>.turns hT (fun k h e2=>hN k (UJ k e2) h.2.2)).mono (fun k _ h=>⟨h.1,h.2.1⟩)
 . exact(hb.mono (S':=fun k=>((S k∨N k∨k=w.heap.size)∧k≠g)∧N k) (fun k hk h=>⟨⟨Or.inr (Or.inl h),UK k hk h⟩,h⟩) |>.turns hT (fun k h e2=>hN k (UJ k e2) h.2)).mono (fun k _ h=>h.1)
end
def nR (w:World)(S:Nat->Prop)(tE:Nat)(ao:ak)(cap:Nat)(es:List iN):Prop :=
 ∃ps:List (iN×EvS),ps.map (·.1)=es∧gV w 0 tE 12 ao cap es.length (iX ps)∧(∀a,ao=some a->S a.block)∧∀p∈ps,xZ w (fun k=>S k∧gL ao≠some k) p.1 p.2
section
variable {w w':World} {S S' N:Nat->Prop} {tE tb:Nat} {ao jy gW:ak} {cap cap2 cap' n:Nat} {es es2:List iN}
theorem jR.all (h:jR w S tE tb ao cap es):nR w S tE ao cap es:=h.own
theorem nR.turns (h:nR w S tE ao cap es)(ht:Turns S' w w')(hs:∀k,S k->¬S' k):nR w' S tE ao cap es:=by
 obtain⟨ps,h1,h2,h3,h4⟩:=h;exact⟨ps,h1,h2.turns ht (fun a e=>hs _ (h3 a e)),h3,fun p hp=>(h4 p hp).turns ht (fun k e=>hs k e.1)⟩
theorem nR.mono (h:nR w S tE ao cap es)(hs:∀k,k<w.heap.size->S k->S' k):nR w S' tE ao cap es:=by
 obtain⟨ps,h1,h2,h3,h4⟩:=h;exact⟨ps,h1,h2,fun a e=>hs _ (h2.block a e).2 (h3 a e),fun p hp=>(h4 p hp).mono (fun k hk e=>⟨hs k hk e.1,e.2⟩)⟩
theorem nR.abu (h:nR w S tE ao cap es):FU w ao cap es:=by
 obtain⟨ps,rfl,hO,_,hI⟩:=h;have hv:=hO.nQ;refine⟨hv.1,hv.2.1,fun j hj=>?_⟩;have hj':j<ps.length:=by simpa using hj
 have h0:0<(iX ps).length:=by rw[mX];omega
 obtain⟨b,o,rfl,hc⟩:=hv.lit h0;refine⟨b,o,ps[j].2,rfl,?_⟩;rw[aG];have hin:=hI _ (aC hj');refine⟨fun i u hi=>?_,hin.fields.is,hin.bytes.is,hin.iw.is⟩;have hl:i<12:=(aQ.1 hi).1;rw[<-rC _ j hj' i hl] at hi;have:=hc _ _ hi;rw[bL];exact this
theorem nR.more {ps ps2:List (iN×EvS)}(h3:∀a,ao=some a->S a.block)(h4:∀p∈ps,xZ w (fun k=>S k∧gL ao≠some k) p.1 p.2)(g4:∀p∈ps2,xZ w N p.1 p.2)(hN:∀k,S k->¬N k)
 (hO:gV w' 0 tE 12 gW cap' n (iX ps++iX ps2)) (hn:n=ps.length+ps2.length) (hG:w.grownBy w' (gL ao)) (hat:gL gW=gL ao∨gL gW=some w.heap.size) :
 nR w' (fun k=>S k∨N k∨k=w.heap.size) tE gW cap' (ps.map (·.1)++ps2.map (·.1)):=by
 subst hn;have hT:Turns (fun k=>gL ao=some k) w w':=Turns.iZ hG (fun k e=>e);have hne:∀k,k<w.heap.size->gL ao≠some k->gL gW≠some k:=fun k hk h e=>by
  rcases hat with g | g
  . rw[g] at e;exact h e
  . rw[g] at e;injection e with e;omega
 refine⟨ps++ps2,by simp,?_,fun a e=>?_,fun p hp=>?_⟩
 . rw[mY];simpa using hO
 . subst e;rcases hat with g | g
   . cases ao with
     | none=>simp[gL] at g
     | some a0=>simp only[gL,bU] at g;rw[g];exact Or.inl (h3 a0 rfl)
   . simp only[gL,bU] at g;exact Or.inr (Or.inr g)
 . rcases bB.1 hp with hp | hp
   . exact((h4 p hp).mono (S':=fun k=>(S k∧gL ao≠some k)∧k<w.heap.size) (fun k hk e=>⟨e,hk⟩)).turns hT (fun k e=>e.1.2) |>.mono (fun k _ e=>⟨Or.inl e.1.1,hne k e.2 e.1.2⟩)
   . have hno:∀k,N k->gL ao≠some k:=fun k hk e=>by
      cases ao with
      | none=>simp[gL] at e
      | some a0=>simp only[gL,bU] at e;exact hN _ (h3 a0 rfl) (e▸hk)
     exact((g4 p hp).mono (S':=fun k=>N k∧k<w.heap.size) (fun k hk e=>⟨e,hk⟩)).turns hT (fun k e=>hno k e.1) |>.mono (fun k _ e=>⟨Or.inr (Or.inl e.1),hne k e.2 (hno k e.1)⟩)
end
def pG (w:World)(S:Nat->Prop)(tE:Nat)(ao:ak)(cap:Nat)(es:List iN):Prop :=
 ∃ps:List (iN×EvS),ps.map (·.1)=es∧gV w 0 tE 12 ao cap es.length (iX ps)∧(∀a,ao=some a->S a.block)∧(∀p∈ps,xZ w (fun k=>S k∧gL ao≠some k) p.1 p.2)∧∀p∈ps,p.2.po=none∧p.2.jA=0
section
variable {w w':World} {S S' N:Nat->Prop} {tE:Nat} {ao gW:ak} {cap cap' n:Nat} {es:List iN}
theorem pG.all (h:pG w S tE ao cap es):nR w S tE ao cap es:=by
 obtain⟨ps,h1,h2,h3,h4,_⟩:=h;exact⟨ps,h1,h2,h3,h4⟩
theorem pG.nil (w:World)(S:Nat->Prop)(tE:Nat):pG w S tE none 0 []:=⟨[],rfl,gV.nil _ _ _ _,fun a e=>(by cases e),fun p hp=>(by cases hp),fun p hp=>(by cases hp)⟩
theorem pG.turns (h:pG w S tE ao cap es)(ht:Turns S' w w')(hs:∀k,S k->¬S' k):pG w' S tE ao cap es:=by
 obtain⟨ps,h1,h2,h3,h4,h5⟩:=h;exact⟨ps,h1,h2.turns ht (fun a e=>hs _ (h3 a e)),h3,fun p hp=>(h4 p hp).turns ht (fun k e=>hs k e.1),h5⟩
theorem pG.mono (h:pG w S tE ao cap es)(hs:∀k,k<w.heap.size->S k->S' k):pG w S' tE ao cap es:=by
 obtain⟨ps,h1,h2,h3,h4,h5⟩:=h;exact⟨ps,h1,h2,fun a e=>hs _ (h2.block a e).2 (h3 a e),fun p hp=>(h4 p hp).mono (fun k hk e=>⟨hs k hk e.1,e.2⟩),h5⟩
theorem pG.more {ps ps2:List (iN×EvS)}(h3:∀a,ao=some a->S a.block)(h4:∀p∈ps,xZ w (fun k=>S k∧gL ao≠some k) p.1 p.2)(g4:∀p∈ps2,xZ w N p.1 p.2)(hN:∀k,S k->¬N k)
 (hO:gV w' 0 tE 12 gW cap' n (iX ps++iX ps2)) (hn:n=ps.length+ps2.length) (hG:w.grownBy w' (gL ao)) (hat:gL gW=gL ao∨gL gW=some w.heap.size) (h5:∀p∈ps,p.2.po=none∧p.2.jA=0) (g5:∀p∈ps2,p.2.po=none∧p.2.jA=0) :
 pG w' (fun k=>S k∨N k∨k=w.heap.size) tE gW cap' (ps.map (·.1)++ps2.map (·.1)):=by
 subst hn;have hT:Turns (fun k=>gL ao=some k) w w':=Turns.iZ hG (fun k e=>e);have hne:∀k,k<w.heap.size->gL ao≠some k->gL gW≠some k:=fun k hk h e=>by
  rcases hat with g | g
  . rw[g] at e;exact h e
  . rw[g] at e;injection e with e;omega
 refine⟨ps++ps2,by simp,?_,fun a e=>?_,fun p hp=>?_,fun p hp=>(bB.1 hp).elim (h5 p) (g5 p)⟩
 . rw[mY];simpa using hO
 . subst e;rcases hat with g | g
   . cases ao with
     | none=>simp[gL] at g
     | some a0=>simp only[gL,bU] at g;rw[g];exact Or.inl (h3 a0 rfl)
   . simp only[gL,bU] at g;exact Or.inr (Or.inr g)
 . rcases bB.1 hp with hp | hp
   . exact((h4 p hp).mono (S':=fun k=>(S k∧gL ao≠some k)∧k<w.heap.size) (fun k hk e=>⟨e,hk⟩)).turns hT (fun k e=>e.1.2) |>.mono (fun k _ e=>⟨Or.inl e.1.1,hne k e.2 e.1.2⟩)
   . have hno:∀k,N k->gL ao≠some k:=fun k hk e=>by
      cases ao with
      | none=>simp[gL] at e
      | some a0=>simp only[gL,bU] at e;exact hN _ (h3 a0 rfl) (e▸hk)
     exact((g4 p hp).mono (S':=fun k=>N k∧k<w.heap.size) (fun k hk e=>⟨e,hk⟩)).turns hT (fun k e=>hno k e.1) |>.mono (fun k _ e=>⟨Or.inr (Or.inl e.1),hne k e.2 (hno k e.1)⟩)
end
abbrev Ob:=World->(Nat->Prop)->Prop
structure lQ (X:Ob):Prop where
 turns:∀{w w':World} {S S':Nat->Prop},X w S->Turns S' w w'->(∀k,S k->¬S' k)->X w' S
 mono:∀{w:World} {S S':Nat->Prop},X w S->(∀k,k<w.heap.size->S k->S' k)->X w S'
theorem lQ.nG:lQ (fun _ _=>True):=⟨fun _ _ _=>trivial,fun _ _=>trivial⟩
section
variable {C:Type} {κ:Nat->C} {w w':World} {X X':C->Ob} {c:C}
def jd (κ:Nat->C)(n:Nat)(c:C):Nat->C:=fun k=>if k<n then κ k else c
theorem jc {n k:Nat}(h:k<n):jd κ n c k=κ k:=if_pos h
theorem qO {n k:Nat}(h:n<=k):jd κ n c k=c:=if_neg (by omega)
def Held (X:C->Ob)(κ:Nat->C)(w:World):Prop:=∀d,X d w (fun k=>κ k=d)
theorem Held.stay (L:∀d,lQ (X d))(h:Held X κ w)(hb:aj w w'):Held X κ w':=fun d=>(L d).turns (h d) (Turns.of_below (S:=fun _=>False) hb) (fun _ _ e=>e)
theorem Held.act (L:∀d,lQ (X d))(h:Held X κ w){T N:Nat->Prop}(ht:Turns T w w')(hT:∀k,T k->κ k=c)(LY:lQ (X' c))(hY:X' c w' N)(hN:∀k,N k->κ k=c∨w.heap.size<=k)(hX:∀d,d≠c->X' d=X d):Held X' (jd κ w.heap.size c) w':=by
 intro d;by_cases hd:d=c
 . subst hd;refine LY.mono hY (fun k _ e=>?_);show jd κ w.heap.size d k=d;rcases aU k w.heap.size with hk | hk
   . rw[jc hk];rcases hN k e with e | e
     . exact e
     . omega
   . exact qO hk
 . rw[hX d hd];have h1:=(L d).mono (h d) (S':=fun k=>κ k=d∧k<w.heap.size) (fun k hk e=>⟨e,hk⟩);have h2:=(L d).turns h1 ht (fun k e e2=>hd (e.1.symm.trans (hT k e2)));exact(L d).mono h2 (fun k _ e=>by show jd κ w.heap.size c k=d;rw[jc e.2];exact e.1)
open Classical in
theorem Held.split (L:∀d,lQ (X d))(h:Held X κ w){p e:C}(hpe:p≠e){T P E:Nat->Prop}(ht:Turns T w w')(hT:∀k,T k->κ k=p)(hP:X' p w' P)(LP:lQ (X' p))(hd:∀k,P k->¬E k)(iP:∀k,P k->κ k=p∨w.heap.size<=k)(iE:∀k,E k->κ k=p∨w.heap.size<=k)
 (hE:∀S:Nat->Prop,X e w' (fun k=>κ k=e∧k<w.heap.size)->(∀k,κ k=e∧k<w.heap.size->S k)->(∀k,E k->S k)->X' e w' S) (hX:∀d,d≠p->d≠e->X' d=X d) :
 ∃J6,Held X' J6 w'∧(∀k,k<w.heap.size->J6 k=κ k∨(κ k=p∧J6 k=e))∧∀k,w.heap.size<=k->J6 k=p∨J6 k=e:=by
 refine⟨fun k=>if E k then e else jd κ w.heap.size p k,fun d=>?_,fun k hk=>?_,fun k hk=>?_⟩
 . by_cases h1:d=p
   . subst h1;refine LP.mono hP (fun k _ hk=>?_);show(if E k then e else jd κ w.heap.size d k)=d;rw[if_neg (hd k hk)];rcases aU k w.heap.size with hl | hl
     . rw[jc hl];rcases iP k hk with i | i
       . exact i
       . omega
     . exact qO hl
   . have hs:∀k,κ k=d∧k<w.heap.size->(if E k then e else jd κ w.heap.size p k)=d:=fun k hk=>by
      have hn:¬E k:=fun i=>by
       rcases iE k i with i | i
       . exact h1 (hk.1.symm.trans i)
       . omega
      rw[if_neg hn,jc hk.2];exact hk.1
     have h2:=(L d).turns ((L d).mono (h d) (S':=fun k=>κ k=d∧k<w.heap.size) (fun k hk e=>⟨e,hk⟩)) ht (fun k e e2=>h1 (e.1.symm.trans (hT k e2)));by_cases h3:d=e
     . subst h3;exact hE _ h2 hs (fun k hk=>if_pos hk)
     . rw[hX d h1 h3];exact(L d).mono h2 (fun k _ hk=>hs k hk)
 . show(if E k then e else jd κ w.heap.size p k)=κ k∨_∧(if E k then e else jd κ w.heap.size p k)=e;by_cases hE:E k
   . rcases iE k hE with i | i
     . exact Or.inr ⟨i,if_pos hE⟩
     . omega
   . exact Or.inl (by rw[if_neg hE,jc hk])
 . show(if E k then e else jd κ w.heap.size p k)=p∨(if E k then e else jd κ w.heap.size p k)=e;by_cases hE:E k
   . exact Or.inr (if_pos hE)
   . exact Or.inl (by rw[if_neg hE,qO hk])
end
section
end
end Go.Proofs.YtjmndjmhjleabaaGreatDoor