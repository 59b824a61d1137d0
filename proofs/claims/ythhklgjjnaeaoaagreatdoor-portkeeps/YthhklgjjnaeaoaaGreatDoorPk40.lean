/- Small texts, one behind the other: RqAddM, RqAddD, RqEv. -/
import Derived.Test.YthhklgjjnaeaoaaGreatDoorPk23
import Derived.Deep.RegionLaw
import Derived.Test.YthhklgjjnaeaoaaGreatDoorPk33
open Go.Value renaming int->I,string->V,slice->Z
open Go.IntKind renaming i64->J
open Go.Obj renaming cells->K
open Option renaming none->U,some->M
open Go renaming World->X
set_option maxHeartbeats 4000000
set_option maxRecDepth 100000
open Go.Proofs.Tryz
namespace Go.Proofs.YthhklgjjnaeaoaaGreatDoor
open Go.RowKit
theorem Et {w:X}{g cap m:Nat}{xs:List Value}(h:gH w 0 98 12 (M ⟨g,0,U⟩) cap (m+1) xs)(j:Nat)(b:j<12){u:Value}(a:xs[m*12+j]? = M u):w.cell? ⟨g,m*12+j,U⟩=M u∧w.frozen? ⟨g,m*12+j,U⟩=false :=
 ⟨(fD h (m*12+j) (by omega)).trans a,fE h _⟩
theorem TR {w c:X}{S:Nat->Prop}{d:List (iH×EvS)}{x:iH}{b:EvS}{l2:av}{g cap m:Nat}{a:ak}{e f:Nat}{i:Obj}
 (own:gH w 0 98 12 (M ⟨g,0,U⟩) cap (m+1) (iY (d++[(x,b)]))) (j:S g)
 (ahead:∀p∈d,BQ w (fun k=>(S k∧k≠g)∧lastB x b≠M k) p.1 p.2)
 (bytes:gK w (fun k=>S k∧k≠g) 5 b.bo b.fU x.bytes) (n:d.length=m)
 (o:Turns (fun k=>jy x.bytes b.bo=M k) (w.alloc i).drew c) (q:gK c (fun k=>jy x.bytes b.bo=M k∨(w.alloc i).drew.heap.size<=k) 5 a e (x.bytes++l2)) (r:f=(x.bytes++l2).length) :
 jD (c.setCells g (m*12) [I J 2,V ⟨#[]⟩,V ⟨#[]⟩,I J 0,Z U 0 0,I J 0,Z a f e,V ⟨#[]⟩,V ⟨#[]⟩,V ⟨#[]⟩,Z U 0 0,I J 0]) (gB S w) 98 5 (M ⟨g,0,U⟩) cap (d.map (·.1)++[jC (x.bytes++l2)])∧Turns S w (c.setCells g (m*12) [I J 2,V ⟨#[]⟩,V ⟨#[]⟩,I J 0,Z U 0 0,I J 0,Z a f e,V ⟨#[]⟩,V ⟨#[]⟩,V ⟨#[]⟩,Z U 0 0,I J 0]):=by
 subst n;subst r;have l:Below w.heap.size w (w.alloc i).drew:=((eY _ w).alloc (aM _) _).trans (gy _ _);refine jD.replace own j ahead bytes (q.mono (fun k _ h=>?_)) ((Turns.of_below l).trans o (fun _ h _=>h));rcases h with h | h
 . exact Or.inl h
 . exact Or.inr (dB l.size h)
theorem TS (w:X)(S:Nat->Prop)(ao:ak)(cap m:Nat)(q:List iH)(x:iH)(e:iH)(s:EvS)(h:jD w S 98 5 ao cap (q++[x]))(hE:gN w s.bo s.fU e.bytes)(hm:q.length=m)(hl:m<=1000000)(hk:e.kind=2)(hx:x.kind=2)(hz:x.bytes.length+e.bytes.length<=140737488355328):
 Calls prog 138 #[Z ao (m+1) cap,.agg #[I J e.kind,V e.method,V e.target,I J e.minor,Z s.fo e.fields.length s.fZ,I J e.length,Z s.bo e.bytes.length s.fU,V e.kK,V e.ku,V e.ptype,Z s.po e.gT.length s.jh,I J e.code]] w fun v w'=>v=.returned (Z ao (m+1) cap)∧jD w' (gB S w) 98 5 ao cap (q++[jC (x.bytes++e.bytes)])∧Turns S w w':=by
 have k2:=aS.2 hk;obtain⟨qs,f,g,rfl,rfl,own,p,i,_,_,bytes⟩:=h.last rfl;have n:qs.length=m:=by simpa using hm
 rw[n] at own;have hcap:=own.qE.1;have D:Below w.heap.size w (w.alloc (K #[I J e.kind,V e.method,V e.target,I J e.minor,Z s.fo e.fields.length s.fZ,I J e.length,Z s.bo e.bytes.length s.fU,V e.kK,V e.ku,V e.ptype,Z s.po e.gT.length s.jh,I J e.code] 98)):=(eY _ w).alloc (aM _) _;have l:∀k,jy x.bytes f.bo=M k->S k∧k≠g:=fun k h=>by
  unfold jy at h;split at h
  . cases h
  . rcases bytes with ⟨_,_,T⟩ | ⟨h1,_⟩
    . cases W:f.bo with
      | none=>rw[W] at h;cases h
      | some a=>rw[W] at h;injection h with h;subst h;exact T a W
    . contradiction
 have G:∀j,j<12->(iY (qs++[(x,f)]))[m*12+j]? = (x.cells f)[j]?:=fun j r=>by
  rw[sJ _ m (by simp[n]) j r];simp[<-n]
 have H:=own.stay D;have c0:(w.alloc (K #[I J e.kind,V e.method,V e.target,I J e.minor,Z s.fo e.fields.length s.fZ,I J e.length,Z s.bo e.bytes.length s.fU,V e.kK,V e.ku,V e.ptype,Z s.po e.gT.length s.jh,I J e.code] 98)).cell? ⟨g,m*12+0,U⟩=M (I J 2):=(Et H 0 (by omega) ((G 0 (by omega)).trans (by show M (Value.int J x.kind)=_;rw[hx]))).1;have c6:(w.alloc (K #[I J e.kind,V e.method,V e.target,I J e.minor,Z s.fo e.fields.length s.fZ,I J e.length,Z s.bo e.bytes.length s.fU,V e.kK,V e.ku,V e.ptype,Z s.po e.gT.length s.jh,I J e.code] 98)).cell? ⟨g,m*12+6,U⟩=M (Z f.bo x.bytes.length f.fU):=(Et H 6 (by omega) (G 6 (by omega))).1;rw[bI] at c0;have HB:gK (w.alloc (K #[I J e.kind,V e.method,V e.target,I J e.minor,Z s.fo e.fields.length s.fZ,I J e.length,Z s.bo e.bytes.length s.fU,V e.kK,V e.ku,V e.ptype,Z s.po e.gT.length s.jh,I J e.code] 98)).drew (fun k=>S k∧k≠g) 5 f.bo f.fU x.bytes:=(bytes.turns (Turns.of_below (S:=fun _=>False) (D.trans (gy _ _))) (fun _ _ e=>e));have HN:gN (w.alloc (K #[I J e.kind,V e.method,V e.target,I J e.minor,Z s.fo e.fields.length s.fZ,I J e.length,Z s.bo e.bytes.length s.fU,V e.kK,V e.ku,V e.ptype,Z s.po e.gT.length s.jh,I J e.code] 98)).drew s.bo s.fU e.bytes:=hE.stay (D.trans (gy _ _));have c:∀L:X,Turns (fun k=>jy x.bytes f.bo=M k) (w.alloc (K #[I J e.kind,V e.method,V e.target,I J e.minor,Z s.fo e.fields.length s.fZ,I J e.length,Z s.bo e.bytes.length s.fU,V e.kK,V e.ku,V e.ptype,Z s.po e.gT.length s.jh,I J e.code] 98)).drew L->∀j,j<12->∃u,L.cell? ⟨g,m*12+j,U⟩=M u∧L.frozen? ⟨g,m*12+j,U⟩=false:=fun L hT j r=>by
  have h1:=(H.stay (gy _ _)).turns hT (fun a ha hb2=>by injection ha with ha;subst ha;exact(l _ hb2).2 rfl);have h2:=G j r;have T:(x.cells f)[j]? = M ((x.cells f)[j]'(by show j<12;exact r)):=dz _;have h4:=Et h1 j r (h2.trans T);exact⟨_,h4.1,h4.2⟩
 have N:=And.intro own (And.intro p (And.intro i bytes));obtain⟨i0,t,y,z,B⟩:=info_parts jJ;have Hi:=t;have kY:=H9 y;have kT:=H9 z;have kZ:=H9 B
 have m0:(0:Int)<=(m:Int):=by omega
 have m1:(m:Int)<(m:Int)+1:=by omega
 have m2:((m+1:Nat):Int)-1=(m:Int):=by omega
 clear t y z B h hk hx own H p i bytes l G D  hm  hE;go_enter func138,ntmps138;go_wp2;go_region_law
  ((refine nU (by rfl) _ _ _ (by rfl) 5 i0 underlying31 Hi kY.o kT.o kZ.o (by rfl) (by rfl) HB rfl HN rfl hz ?_;intro bo3 gZ d C b;have rZ:=H9 C;have HT3:=H9 b;obtain⟨v0,d0,f0⟩:=c d b 0 (by decide);obtain⟨v1,d1,f1⟩:=c d b 1 (by decide);obtain⟨v2,d2,f2⟩:=c d b 2 (by decide);obtain⟨v3,d3,f3⟩:=c d b 3 (by decide);obtain⟨v4,d4,f4⟩:=c d b 4 (by decide);obtain⟨v5,d5,f5⟩:=c d b 5 (by decide);obtain⟨v6,d6,f6⟩:=c d b 6 (by decide);obtain⟨v7,d7,f7⟩:=c d b 7 (by decide);obtain⟨v8,d8,f8⟩:=c d b 8 (by decide);obtain⟨v9,d9,f9⟩:=c d b 9 (by decide);obtain⟨v10,d10,f10⟩:=c d b 10 (by decide);obtain⟨v11,d11,f11⟩:=c d b 11 (by decide);rw[bI] at d0 f0;clear C b))
 all_goals (go_wp2;go_ret;refine⟨rfl,?_⟩;exact TR N.1 N.2.1 N.2.2.1 N.2.2.2 n HT3.o rZ.o (by rw[aV]))
inductive aeA (w:X)(S N:Nat->Prop)(es:List iH)(e:iH)(v:Ending)(w':X):Prop
 | mk (ao:ak) (cap n:Nat) (hv:v=.returned (Z ao n cap)) (hn:n=(sI es e).length) (hO:jD w' (fun k=>S k∨N k∨w.heap.size<=k) 98 5 ao cap (sI es e)) (hT:Turns S w w')
theorem C8 {w:X}{S:Nat->Prop}{a tb:Nat}{ao:ak}{cap:Nat}{es:List iH}(h:jD w S a tb ao cap es)(b:es=[]):ao=U∧cap=0:=by
 cases h with
 | bare=>exact⟨rfl,rfl⟩
 | laid q e s g cap own=>simp at b
theorem Xy (w:X)(S N:Nat->Prop)(ao:ak)(cap n:Nat)(es:List iH)(e:iH)(s:EvS)(h:jD w S 98 5 ao cap es)(g:Jj w S N e s)(c:es.length=n)(z:n<=1000000)(r:(qm es).length+e.bytes.length<=140737488355328):
 Calls prog 138 #[Z ao n cap,.agg #[I J e.kind,V e.method,V e.target,I J e.minor,Z s.fo e.fields.length s.fZ,I J e.length,Z s.bo e.bytes.length s.fU,V e.kK,V e.ku,V e.ptype,Z s.po e.gT.length s.jh,I J e.code]] w fun v w'=>aeA w S N es e v w':=by
 by_cases i:e.kind=2∧tailD es=true
 . obtain⟨q,x,rfl,t⟩:=qY i.2;rw[qG] at r;obtain⟨m,rfl⟩:∃m,n=m+1:=⟨q.length,by rw[<-c];simp⟩;refine(TS w S ao cap m q x e s h g.bytes.tQ (by simpa using c) (by omega) i.1 t r).mono ?_;rintro v w' ⟨rfl,j,l⟩;have d:=ow q x e t i.1;refine .mk ao cap (m+1) rfl (by rw[d];simp at c ⊢;omega) ?_ l;rw[d];refine j.mono (fun k _ b=>?_);rcases b with b | b
   . exact Or.inl b
   . exact Or.inr (Or.inr b)
 . have u:e.kind=2->tailD es=false:=fun k=>by
    cases B:tailD es
    . rfl
    . exact absurd ⟨k,B⟩ i
   have d:=nk es e u;have fin:∀{v w'},uH w S N es e v w'->aeA w S N es e v w':=by
    rintro v w' ⟨C,f,D,j,l⟩;exact .mk C f _ D (by rw[d];simp) (by rw[d];exact j) l
   by_cases b:e.kind=2
   . rcases bB es with a | ⟨q,x,a⟩
     . subst a;subst c;obtain⟨rfl,rfl⟩:=C8 h rfl;exact(TQ w S N e s g b).mono (fun v w' k=>fin k)
     . rw[bD] at a;obtain⟨m,rfl⟩:∃m,n=m+1:=⟨q.length,by rw[<-c,a];simp⟩;refine(OW w S N ao cap m es e s h g c (by omega) b (fun y o k=>?_)).mono (fun v w' k=>fin k);have p:=u b;rw[a,qF] at p;rw[a,dX] at o;simp at o;rw[o] at p;exact of_decide_eq_false p k
   . subst c;exact(TP w S N ao cap es e s h g z b).mono (fun v w' k=>fin k)
abbrev nM (w:X)(S:Nat->Prop)(ao:ak)(cap:Nat)(es:List Rq.Ev):Prop:=jD w S 98 5 ao cap (es.map Rq.Ev.d)
inductive LM (w:X)(S N:Nat->Prop)(es:List Rq.Ev)(e:Rq.Ev)(v:Ending)(w':X):Prop
 | mk (ao:ak) (cap n:Nat) (hv:v=.returned (Z ao n cap)) (hn:n=(Rq.join (es++[e])).length) (hO:nM w' (fun k=>S k∨N k∨w.heap.size<=k) ao cap (Rq.join (es++[e]))) (hT:Turns S w w')
theorem xk (w:World)(S N:Nat->Prop)(ao:ak)(cap n:Nat)(es:List Rq.Ev)(e:Rq.Ev)(s:EvS)(h:nM w S ao cap es)(hE:Jj w S N e.d s)(hn:es.length=n)(hl:n<=100000)(hj:Rq.Joined es)(_hf:Rq.Full es)(hb:∀a,e=.body a->a≠[]∧a.length<=100000)(hz:Rq.iO es<=100000):
 Calls prog 138 #[.slice ao n cap,.agg #[.int .i64 e.d.kind,.string e.d.method,.string e.d.target,.int .i64 e.d.minor,.slice s.fo e.d.fields.length s.fZ,.int .i64 e.d.length,.slice s.bo e.d.bytes.length s.fU,.string e.d.kK,.string e.d.ku,.string e.d.ptype,.slice s.po e.d.gT.length s.jh,.int .i64 e.d.code]] w fun v w'=>LM w S N es e v w':=by
 have hm:(es.map Rq.Ev.d).length=n:=by rw[aF];exact hn
 have hs1:(qm (es.map Rq.Ev.d)).length<=100000:=by
  have:=Ie (es.map Rq.Ev.d);rw[Eu] at this;omega
 have hs2:e.d.bytes.length<=100000:=by
  cases e with
  | body a=>exact(hb a rfl).2
  | head _=>exact aA _
  | fin=>exact aA _
  | fail _=>exact aA _
 refine(Xy w S N ao cap n (es.map Rq.Ev.d) e.d s h hE hm (by omega) (by omega)).mono ?_;rintro v w' ⟨gJ,cap',n',hv,hn',hO,hT⟩;rw[ab8 hj] at hn' hO;exact .mk gJ cap' n' hv (by rw[hn',aF]) hO hT
theorem Jk (w:X)(S:Nat->Prop)(ao:ak)(cap n:Nat)(es:List Rq.Ev)(h:nM w S ao cap es)(b:es.length=n)(c:n<=100000)(d:Rq.Joined es)(f:Rq.Full es)(g:Rq.iO es<=100000):
 Calls prog 138 #[Z ao n cap,.agg #[I J 3,V ⟨#[]⟩,V ⟨#[]⟩,I J 0,Z U 0 0,I J 0,Z U 0 0,V ⟨#[]⟩,V ⟨#[]⟩,V ⟨#[]⟩,Z U 0 0,I J 0]] w fun v w'=>LM w S (fun _=>False) es .fin v w' :=
 xk w S (fun _=>False) ao cap n es .fin ⟨U,0,U,0,U,0⟩ h ⟨nN.nil _ _,jI.nil _ _,gK.nil _ _ _,fun _ _ e=>e⟩ b c d f (fun a e=>by cases e) g
theorem Xz (w:X)(S:Nat->Prop)(ao:ak)(cap n c:Nat)(es:List Rq.Ev)(h:nM w S ao cap es)(b:es.length=n)(d:n<=100000)(f:Rq.Joined es)(g:Rq.Full es)(i:Rq.iO es<=100000):
 Calls prog 138 #[Z ao n cap,.agg #[I J 4,V ⟨#[]⟩,V ⟨#[]⟩,I J 0,Z U 0 0,I J 0,Z U 0 0,V ⟨#[]⟩,V ⟨#[]⟩,V ⟨#[]⟩,Z U 0 0,I J (c:Int)]] w fun v w'=>LM w S (fun _=>False) es (.fail c) v w' :=
 xk w S (fun _=>False) ao cap n es (.fail c) ⟨U,0,U,0,U,0⟩ h ⟨nN.nil _ _,jI.nil _ _,gK.nil _ _ _,fun _ _ e=>e⟩ b d f g (fun a e=>by cases e) i
theorem Ew (w:X)(S N:Nat->Prop)(ao bo:ak)(cap n c m:Nat)(b:av)(es:List Rq.Ev)(h:nM w S ao cap es)(f:gK w N 5 bo c b)(g:b≠[])(i:b.length=m)(d:m<=100000)(j:∀k,S k->¬N k)(l:es.length=n)(o:n<=100000)(p:Rq.Joined es)(q:Rq.Full es)(r:Rq.iO es<=100000):
 Calls prog 138 #[Z ao n cap,.agg #[I J 2,V ⟨#[]⟩,V ⟨#[]⟩,I J 0,Z U 0 0,I J 0,Z bo m c,V ⟨#[]⟩,V ⟨#[]⟩,V ⟨#[]⟩,Z U 0 0,I J 0]] w fun v w'=>LM w S N es (.body b) v w':=by
 subst i;exact xk w S N ao cap n es (.body b) ⟨U,0,bo,c,U,0⟩ h ⟨nN.nil _ _,jI.nil _ _,f,j⟩ l o p q (fun a e=>by injection e with e;subst e;exact⟨g,d⟩) r
theorem XA (w:X)(S N:Nat->Prop)(ao fo:ak)(cap n b m:Nat)(hd:Rq.Hd)(es:List Rq.Ev)(h:nM w S ao cap es)(f:nN w N fo b m (gG (Rq.nu hd.fields)))(g:hd.fields.length=m)(i:∀k,S k->¬N k)(j:es.length=n)(l:n<=100000)(o:Rq.Joined es)(p:Rq.Full es)(q:Rq.iO es<=100000):
 Calls prog 138 #[Z ao n cap,.agg #[I J 1,V ⟨hd.method.toArray⟩,V ⟨hd.target.toArray⟩,I J (hd.minor:Int),Z fo m b,I J hd.length,Z U 0 0,V ⟨#[]⟩,V ⟨#[]⟩,V ⟨#[]⟩,Z U 0 0,I J 0]] w fun v w'=>LM w S N es (.head hd) v w':=by
 have c:(Rq.nu hd.fields).length=m:=by rw[Rq.qI];exact g
 subst c;exact xk w S N ao cap n es (.head hd) ⟨fo,b,U,0,U,0⟩ h ⟨f.mono (fun k _ e=>⟨e,by simp[lastB,Rq.Ev.d]⟩),jI.nil _ _,gK.nil _ _ _,i⟩ j l o p (fun a e=>by cases e) q
end Go.Proofs.YthhklgjjnaeaoaaGreatDoor