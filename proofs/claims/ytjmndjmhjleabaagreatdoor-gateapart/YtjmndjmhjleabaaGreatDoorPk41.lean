/- Small texts, one behind the other: RqAddM, RqAddD, RqEv. -/
import Derived.Test.YtjmndjmhjleabaaGreatDoorPk25
import Derived.Deep.RegionLaw
import Derived.Test.YtjmndjmhjleabaaGreatDoorPk37
open Go.Value renaming int->I,string->V,slice->Z
open Go.IntKind renaming i64->J
open Go.Obj renaming cells->K
open Option renaming none->U,some->M
open Go renaming World->X
set_option maxHeartbeats 4000000
set_option maxRecDepth 100000
open Go.Proofs.Tryz
namespace Go.Proofs.YtjmndjmhjleabaaGreatDoor
open Go.RowKit
theorem E8 {w:X}{g cap m:Nat}{xs:List Value}(h:gU w 0 72 12 (M ⟨g,0,U⟩) cap (m+1) xs)(j:Nat)(b:j<12){u:Value}(a:xs[m*12+j]? = M u):w.cell? ⟨g,m*12+j,U⟩=M u∧w.frozen? ⟨g,m*12+j,U⟩=false :=
 ⟨(fQ h (m*12+j) (by omega)).trans a,fT h _⟩
theorem TY {w c:X}{S:Nat->Prop}{d:List (iM×EvS)}{x:iM}{b:EvS}{l2:au}{g cap m:Nat}{a:aj}{e f:Nat}{i:Obj}
 (own:gU w 0 72 12 (M ⟨g,0,U⟩) cap (m+1) (iW (d++[(x,b)]))) (j:S g)
 (ahead:∀p∈d,xY w (fun k=>(S k∧k≠g)∧lastB x b≠M k) p.1 p.2)
 (bytes:gY w (fun k=>S k∧k≠g) 5 b.bo b.gJ x.bytes) (n:d.length=m)
 (o:Turns (fun k=>jM x.bytes b.bo=M k) (w.alloc i).drew c) (q:gY c (fun k=>jM x.bytes b.bo=M k∨(w.alloc i).drew.heap.size<=k) 5 a e (x.bytes++l2)) (r:f=(x.bytes++l2).length) :
 jQ (c.setCells g (m*12) [I J 2,V ⟨#[]⟩,V ⟨#[]⟩,I J 0,Z U 0 0,I J 0,Z a f e,V ⟨#[]⟩,V ⟨#[]⟩,V ⟨#[]⟩,Z U 0 0,I J 0]) (gM S w) 72 5 (M ⟨g,0,U⟩) cap (d.map (·.1)++[jX (x.bytes++l2)])∧Turns S w (c.setCells g (m*12) [I J 2,V ⟨#[]⟩,V ⟨#[]⟩,I J 0,Z U 0 0,I J 0,Z a f e,V ⟨#[]⟩,V ⟨#[]⟩,V ⟨#[]⟩,Z U 0 0,I J 0]):=by
 subst n;subst r;have l:Below w.heap.size w (w.alloc i).drew:=((fI _ w).alloc (aL _) _).trans (gP _ _);refine jQ.replace own j ahead bytes (q.mono (fun k _ h=>?_)) ((Turns.of_below l).trans o (fun _ h _=>h));rcases h with h | h
 . exact Or.inl h
 . exact Or.inr (dF l.size h)
theorem Ua (w:X)(S:Nat->Prop)(ao:aj)(cap m:Nat)(q:List iM)(x:iM)(e:iM)(s:EvS)(h:jQ w S 72 5 ao cap (q++[x]))(hE:iG w s.bo s.gJ e.bytes)(hm:q.length=m)(hl:m<=1000000)(hk:e.kind=2)(hx:x.kind=2)(hz:x.bytes.length+e.bytes.length<=140737488355328):
 Calls prog 105 #[Z ao (m+1) cap,.agg #[I J e.kind,V e.method,V e.target,I J e.minor,Z s.fo e.fields.length s.gL,I J e.length,Z s.bo e.bytes.length s.gJ,V e.kV,V e.kI,V e.ptype,Z s.po e.iq.length s.jy,I J e.code]] w fun v w'=>v=.returned (Z ao (m+1) cap)∧jQ w' (gM S w) 72 5 ao cap (q++[jX (x.bytes++e.bytes)])∧Turns S w w':=by
 have k2:(e.kind==2)=true:=aS.2 hk;obtain⟨qs,f,g,rfl,rfl,own,p,i,_,_,bytes⟩:=h.last rfl;have l:qs.length=m:=by simpa using hm
 rw[l] at own;have hcap:m+1<=cap:=own.nP.1;have D:Below w.heap.size w (w.alloc (K #[I J e.kind,V e.method,V e.target,I J e.minor,Z s.fo e.fields.length s.gL,I J e.length,Z s.bo e.bytes.length s.gJ,V e.kV,V e.kI,V e.ptype,Z s.po e.iq.length s.jy,I J e.code] 72)):=(fI _ w).alloc (aL _) _;have n:∀k,jM x.bytes f.bo=M k->S k∧k≠g:=fun k h=>by
  unfold jM at h;split at h
  . cases h
  . rcases bytes with ⟨_,_,O⟩ | ⟨h1,_⟩
    . cases P:f.bo with
      | none=>rw[P] at h;cases h
      | some a=>rw[P] at h;injection h with h;subst h;exact O a P
    . contradiction
 have G:∀j,j<12->(iW (qs++[(x,f)]))[m*12+j]? = (x.cells f)[j]?:=fun j r=>by
  rw[rA _ m (by simp[l]) j r];simp[<-l]
 have H:=own.stay D;have c0:(w.alloc (K #[I J e.kind,V e.method,V e.target,I J e.minor,Z s.fo e.fields.length s.gL,I J e.length,Z s.bo e.bytes.length s.gJ,V e.kV,V e.kI,V e.ptype,Z s.po e.iq.length s.jy,I J e.code] 72)).cell? ⟨g,m*12+0,U⟩=M (I J 2):=(E8 H 0 (by omega) ((G 0 (by omega)).trans (by show M (Value.int J x.kind)=_;rw[hx]))).1;have c6:(w.alloc (K #[I J e.kind,V e.method,V e.target,I J e.minor,Z s.fo e.fields.length s.gL,I J e.length,Z s.bo e.bytes.length s.gJ,V e.kV,V e.kI,V e.ptype,Z s.po e.iq.length s.jy,I J e.code] 72)).cell? ⟨g,m*12+6,U⟩=M (Z f.bo x.bytes.length f.gJ):=(E8 H 6 (by omega) (G 6 (by omega))).1;rw[bJ] at c0;have HB:Hid (gY (w.alloc (K #[I J e.kind,V e.method,V e.target,I J e.minor,Z s.fo e.fields.length s.gL,I J e.length,Z s.bo e.bytes.length s.gJ,V e.kV,V e.kI,V e.ptype,Z s.po e.iq.length s.jy,I J e.code] 72)).drew (fun k=>S k∧k≠g) 5 f.bo f.gJ x.bytes):=(bytes.turns (Turns.of_below (S:=fun _=>False) (D.trans (gP _ _))) (fun _ _ e=>e));have HN:Hid (iG (w.alloc (K #[I J e.kind,V e.method,V e.target,I J e.minor,Z s.fo e.fields.length s.gL,I J e.length,Z s.bo e.bytes.length s.gJ,V e.kV,V e.kI,V e.ptype,Z s.po e.iq.length s.jy,I J e.code] 72)).drew s.bo s.gJ e.bytes):=hE.stay (D.trans (gP _ _));have c:Hid (∀L:X,Turns (fun k=>jM x.bytes f.bo=M k) (w.alloc (K #[I J e.kind,V e.method,V e.target,I J e.minor,Z s.fo e.fields.length s.gL,I J e.length,Z s.bo e.bytes.length s.gJ,V e.kV,V e.kI,V e.ptype,Z s.po e.iq.length s.jy,I J e.code] 72)).drew L->∀j,j<12->∃u,L.cell? ⟨g,m*12+j,U⟩=M u∧L.frozen? ⟨g,m*12+j,U⟩=false):=fun L hT j r=>by
  have h1:=(H.stay (gP _ _)).turns hT (fun a ha T=>by injection ha with ha;subst ha;exact(n _ T).2 rfl);have h2:=G j r;have O:(x.cells f)[j]? = M ((x.cells f)[j]'(by show j<12;exact r)):=dB _;have h4:=E8 h1 j r (h2.trans O);exact⟨_,h4.1,h4.2⟩
 have N:=H9 (And.intro own (And.intro p (And.intro i bytes)));obtain⟨i0,t,y,z,B⟩:=info_parts jN;have Hi:=H9 t;have kJ:=H9 y;have kG:=H9 z;have kK:=H9 B
 have HZ:=H9 hz;have HQ:=H9 l;have m0:(0:Int)<=(m:Int):=by omega
 have m1:(m:Int)<(m:Int)+1:=by omega
 have m2:((m+1:Nat):Int)-1=(m:Int):=by omega
 clear t y z B h hk hx own H p i bytes n G D hz hm l hE;go_enter func105,ntmps105;go_wp2;go_region_law
  ((refine og (by rfl) _ _ _ (by rfl) 5 i0 underlying31 Hi.o kJ.o kG.o kK.o (by rfl) (by rfl) HB.o rfl HN.o rfl HZ.o ?_;intro bo3 gW d C b;have oC:=H9 C;have W:=H9 b;obtain⟨v0,d0,f0⟩:=c.o d b 0 (by decide);obtain⟨v1,d1,f1⟩:=c.o d b 1 (by decide);obtain⟨v2,d2,f2⟩:=c.o d b 2 (by decide);obtain⟨v3,d3,f3⟩:=c.o d b 3 (by decide);obtain⟨v4,d4,f4⟩:=c.o d b 4 (by decide);obtain⟨v5,d5,f5⟩:=c.o d b 5 (by decide);obtain⟨v6,d6,f6⟩:=c.o d b 6 (by decide);obtain⟨v7,d7,f7⟩:=c.o d b 7 (by decide);obtain⟨v8,d8,f8⟩:=c.o d b 8 (by decide);obtain⟨v9,d9,f9⟩:=c.o d b 9 (by decide);obtain⟨v10,d10,f10⟩:=c.o d b 10 (by decide);obtain⟨v11,d11,f11⟩:=c.o d b 11 (by decide);rw[bJ] at d0 f0;clear C b))
 all_goals (go_wp2;go_ret;refine⟨rfl,?_⟩;exact TY N.o.1 N.o.2.1 N.o.2.2.1 N.o.2.2.2 HQ.o W.o oC.o (by rw[aV]))
inductive ae8 (w:X)(S N:Nat->Prop)(es:List iM)(e:iM)(v:Ending)(w':X):Prop
 | mk (ao:aj) (cap n:Nat) (hv:v=.returned (Z ao n cap)) (hn:n=(vL es e).length) (hO:jQ w' (fun k=>S k∨N k∨w.heap.size<=k) 72 5 ao cap (vL es e)) (hT:Turns S w w')
theorem DF {w:X}{S:Nat->Prop}{a tb:Nat}{ao:aj}{cap:Nat}{es:List iM}(h:jQ w S a tb ao cap es)(b:es=[]):ao=U∧cap=0:=by
 cases h with
 | bare=>exact⟨rfl,rfl⟩
 | laid q e s g cap own=>simp at b
theorem XG (w:X)(S N:Nat->Prop)(ao:aj)(cap n:Nat)(es:List iM)(e:iM)(s:EvS)(h:jQ w S 72 5 ao cap es)(g:JN w S N e s)(c:es.length=n)(z:n<=1000000)(r:(qQ es).length+e.bytes.length<=140737488355328):
 Calls prog 105 #[Z ao n cap,.agg #[I J e.kind,V e.method,V e.target,I J e.minor,Z s.fo e.fields.length s.gL,I J e.length,Z s.bo e.bytes.length s.gJ,V e.kV,V e.kI,V e.ptype,Z s.po e.iq.length s.jy,I J e.code]] w fun v w'=>ae8 w S N es e v w':=by
 by_cases i:e.kind=2∧tailD es=true
 . obtain⟨q,x,rfl,t⟩:=pJ i.2;rw[rM] at r;obtain⟨m,rfl⟩:∃m,n=m+1:=⟨q.length,by rw[<-c];simp⟩;refine(Ua w S ao cap m q x e s h g.bytes.wZ (by simpa using c) (by omega) i.1 t r).mono ?_;rintro v w' ⟨rfl,j,l⟩;have d:=nM q x e t i.1;refine .mk ao cap (m+1) rfl (by rw[d];simp at c ⊢;omega) ?_ l;rw[d];refine j.mono (fun k _ b=>?_);rcases b with b | b
   . exact Or.inl b
   . exact Or.inr (Or.inr b)
 . have u:e.kind=2->tailD es=false:=fun k=>by
    cases B:tailD es
    . rfl
    . exact absurd ⟨k,B⟩ i
   have d:=mI es e u;have fin:∀{v w'},vg w S N es e v w'->ae8 w S N es e v w':=by
    rintro v w' ⟨C,f,D,j,l⟩;exact .mk C f _ D (by rw[d];simp) (by rw[d];exact j) l
   by_cases b:e.kind=2
   . rcases bC es with a | ⟨q,x,a⟩
     . subst a;subst c;obtain⟨rfl,rfl⟩:=DF h rfl;exact(TW w S N e s g b).mono (fun v w' k=>fin k)
     . rw[bE] at a;obtain⟨m,rfl⟩:∃m,n=m+1:=⟨q.length,by rw[<-c,a];simp⟩;refine(Ph w S N ao cap m es e s h g c (by omega) b (fun y o k=>?_)).mono (fun v w' k=>fin k);have p:=u b;rw[a,rJ] at p;rw[a,eZ] at o;simp at o;rw[o] at p;exact of_decide_eq_false p k
   . subst c;exact(TV w S N ao cap es e s h g z b).mono (fun v w' k=>fin k)
abbrev nV (w:X)(S:Nat->Prop)(ao:aj)(cap:Nat)(es:List Rq.Ev):Prop:=jQ w S 72 5 ao cap (es.map Rq.Ev.d)
inductive Mx (w:X)(S N:Nat->Prop)(es:List Rq.Ev)(e:Rq.Ev)(v:Ending)(w':X):Prop
 | mk (ao:aj) (cap n:Nat) (hv:v=.returned (Z ao n cap)) (hn:n=(Rq.join (es++[e])).length) (hO:nV w' (fun k=>S k∨N k∨w.heap.size<=k) ao cap (Rq.join (es++[e]))) (hT:Turns S w w')
theorem xW (w:World)(S N:Nat->Prop)(ao:aj)(cap n:Nat)(es:List Rq.Ev)(e:Rq.Ev)(s:EvS)(h:nV w S ao cap es)(hE:JN w S N e.d s)(hn:es.length=n)(hl:n<=100000)(hj:Rq.Joined es)(_hf:Rq.Full es)(hb:∀a,e=.body a->a≠[]∧a.length<=100000)(hz:Rq.jD es<=100000):
 Calls prog 105 #[.slice ao n cap,.agg #[.int .i64 e.d.kind,.string e.d.method,.string e.d.target,.int .i64 e.d.minor,.slice s.fo e.d.fields.length s.gL,.int .i64 e.d.length,.slice s.bo e.d.bytes.length s.gJ,.string e.d.kV,.string e.d.kI,.string e.d.ptype,.slice s.po e.d.iq.length s.jy,.int .i64 e.d.code]] w fun v w'=>Mx w S N es e v w':=by
 have hm:(es.map Rq.Ev.d).length=n:=by rw[aD];exact hn
 have hs1:(qQ (es.map Rq.Ev.d)).length<=100000:=by
  have:=Ja (es.map Rq.Ev.d);rw[E9] at this;omega
 have hs2:e.d.bytes.length<=100000:=by
  cases e with
  | body a=>exact(hb a rfl).2
  | head _=>exact ay _
  | fin=>exact ay _
  | fail _=>exact ay _
 refine(XG w S N ao cap n (es.map Rq.Ev.d) e.d s h hE hm (by omega) (by omega)).mono ?_;rintro v w' ⟨gV,cap',n',hv,hn',hO,hT⟩;rw[acN hj] at hn' hO;exact .mk gV cap' n' hv (by rw[hn',aD]) hO hT
theorem JO (w:X)(S:Nat->Prop)(ao:aj)(cap n:Nat)(es:List Rq.Ev)(h:nV w S ao cap es)(b:es.length=n)(c:n<=100000)(d:Rq.Joined es)(f:Rq.Full es)(g:Rq.jD es<=100000):
 Calls prog 105 #[Z ao n cap,.agg #[I J 3,V ⟨#[]⟩,V ⟨#[]⟩,I J 0,Z U 0 0,I J 0,Z U 0 0,V ⟨#[]⟩,V ⟨#[]⟩,V ⟨#[]⟩,Z U 0 0,I J 0]] w fun v w'=>Mx w S (fun _=>False) es .fin v w' :=
 xW w S (fun _=>False) ao cap n es .fin ⟨U,0,U,0,U,0⟩ h ⟨nD.nil _ _,jZ.nil _ _,gY.nil _ _ _,fun _ _ e=>e⟩ b c d f (fun a e=>by cases e) g
theorem XH (w:X)(S:Nat->Prop)(ao:aj)(cap n c:Nat)(es:List Rq.Ev)(h:nV w S ao cap es)(b:es.length=n)(d:n<=100000)(f:Rq.Joined es)(g:Rq.Full es)(i:Rq.jD es<=100000):
 Calls prog 105 #[Z ao n cap,.agg #[I J 4,V ⟨#[]⟩,V ⟨#[]⟩,I J 0,Z U 0 0,I J 0,Z U 0 0,V ⟨#[]⟩,V ⟨#[]⟩,V ⟨#[]⟩,Z U 0 0,I J (c:Int)]] w fun v w'=>Mx w S (fun _=>False) es (.fail c) v w' :=
 xW w S (fun _=>False) ao cap n es (.fail c) ⟨U,0,U,0,U,0⟩ h ⟨nD.nil _ _,jZ.nil _ _,gY.nil _ _ _,fun _ _ e=>e⟩ b d f g (fun a e=>by cases e) i
theorem Fa (w:X)(S N:Nat->Prop)(ao bo:aj)(cap n c m:Nat)(b:au)(es:List Rq.Ev)(h:nV w S ao cap es)(f:gY w N 5 bo c b)(g:b≠[])(i:b.length=m)(d:m<=100000)(j:∀k,S k->¬N k)(l:es.length=n)(o:n<=100000)(p:Rq.Joined es)(q:Rq.Full es)(r:Rq.jD es<=100000):
 Calls prog 105 #[Z ao n cap,.agg #[I J 2,V ⟨#[]⟩,V ⟨#[]⟩,I J 0,Z U 0 0,I J 0,Z bo m c,V ⟨#[]⟩,V ⟨#[]⟩,V ⟨#[]⟩,Z U 0 0,I J 0]] w fun v w'=>Mx w S N es (.body b) v w':=by
 subst i;exact xW w S N ao cap n es (.body b) ⟨U,0,bo,c,U,0⟩ h ⟨nD.nil _ _,jZ.nil _ _,f,j⟩ l o p q (fun a e=>by injection e with e;subst e;exact⟨g,d⟩) r
theorem XI (w:X)(S N:Nat->Prop)(ao fo:aj)(cap n b m:Nat)(hd:Rq.Hd)(es:List Rq.Ev)(h:nV w S ao cap es)(f:nD w N fo b m (gT (Rq.nu hd.fields)))(g:hd.fields.length=m)(i:∀k,S k->¬N k)(j:es.length=n)(l:n<=100000)(o:Rq.Joined es)(p:Rq.Full es)(q:Rq.jD es<=100000):
 Calls prog 105 #[Z ao n cap,.agg #[I J 1,V ⟨hd.method.toArray⟩,V ⟨hd.target.toArray⟩,I J (hd.minor:Int),Z fo m b,I J hd.length,Z U 0 0,V ⟨#[]⟩,V ⟨#[]⟩,V ⟨#[]⟩,Z U 0 0,I J 0]] w fun v w'=>Mx w S N es (.head hd) v w':=by
 have c:(Rq.nu hd.fields).length=m:=by rw[Rq.kU];exact g
 subst c;exact xW w S N ao cap n es (.head hd) ⟨fo,b,U,0,U,0⟩ h ⟨f.mono (fun k _ e=>⟨e,by simp[lastB,Rq.Ev.d]⟩),jZ.nil _ _,gY.nil _ _ _,i⟩ j l o p (fun a e=>by cases e) q
end Go.Proofs.YtjmndjmhjleabaaGreatDoor