/- Small texts, one behind the other: RqAddM, RqAddD, RqEv. -/
import Derived.Test.YtjmndjmhjleabaaGreatDoorAl
import Derived.Test.YtjmndjmhjleabaaGreatDoorAm
import Derived.Test.YtjmndjmhjleabaaGreatDoorPk25
import Derived.Deep.RegionLaw
import Derived.Test.YtjmndjmhjleabaaGreatDoorPk15
import Derived.Test.YtjmndjmhjleabaaGreatDoorPk14
import Derived.Test.YtjmndjmhjleabaaGreatDoorPk1
import Derived.Test.YtjmndjmhjleabaaGreatDoorPk37
set_option maxHeartbeats 4000000
set_option maxRecDepth 100000
open Go.Proofs.Tryz
namespace Go.Proofs.YtjmndjmhjleabaaGreatDoor
open Go.RowKit
theorem E9 {w:World}{g cap m:Nat}{xs:List Value}(h:gV w 0 72 12 (some ⟨g,0,none⟩) cap (m+1) xs)(j:Nat)(hj:j<12){u:Value}(hu:xs[m*12+j]? = some u):w.cell? ⟨g,m*12+j,none⟩=some u∧w.frozen? ⟨g,m*12+j,none⟩=false :=
 ⟨(fT h (m*12+j) (by omega)).trans hu,fU h _⟩
theorem Ua {w w3:World}{S:Nat->Prop}{qs:List (iN×EvS)}{x:iN}{sx:EvS}{l2:av}{g cap m:Nat}{bo3:ak}{gX n3:Nat}{ob:Obj}
 (own:gV w 0 72 12 (some ⟨g,0,none⟩) cap (m+1) (iX (qs++[(x,sx)]))) (mem:S g)
 (ahead:∀p∈qs,xZ w (fun k=>(S k∧k≠g)∧lastB x sx≠some k) p.1 p.2)
 (bytes:gZ w (fun k=>S k∧k≠g) 5 sx.bo sx.gK x.bytes) (hq:qs.length=m)
 (hT:Turns (fun k=>jN x.bytes sx.bo=some k) (w.alloc ob).drew w3) (hO:gZ w3 (fun k=>jN x.bytes sx.bo=some k∨(w.alloc ob).drew.heap.size<=k) 5 bo3 gX (x.bytes++l2)) (hn:n3=(x.bytes++l2).length) :
 jR (w3.setCells g (m*12) [.int .i64 2,.string ⟨#[]⟩,.string ⟨#[]⟩,.int .i64 0,.slice none 0 0,.int .i64 0,.slice bo3 n3 gX,.string ⟨#[]⟩,.string ⟨#[]⟩,.string ⟨#[]⟩,.slice none 0 0,.int .i64 0]) (gN S w) 72 5 (some ⟨g,0,none⟩) cap (qs.map (·.1)++[jY (x.bytes++l2)])∧Turns S w (w3.setCells g (m*12) [.int .i64 2,.string ⟨#[]⟩,.string ⟨#[]⟩,.int .i64 0,.slice none 0 0,.int .i64 0,.slice bo3 n3 gX,.string ⟨#[]⟩,.string ⟨#[]⟩,.string ⟨#[]⟩,.slice none 0 0,.int .i64 0]):=by
 subst hq;subst hn;have hB:aj w (w.alloc ob).drew:=((fJ _ w).alloc (aM _) _).trans (gQ _ _);refine jR.replace own mem ahead bytes (hO.mono (fun k _ h=>?_)) ((Turns.of_below hB).trans hT (fun _ h _=>h));rcases h with h | h
 . exact Or.inl h
 . exact Or.inr (dG hB.size h)
theorem Ub (w:World)(S:Nat->Prop)(ao:ak)(cap m:Nat)(q:List iN)(x:iN)(e:iN)(s:EvS)(h:jR w S 72 5 ao cap (q++[x]))(hE:iH w s.bo s.gK e.bytes)(hm:q.length=m)(hl:m<=1000000)(hk:e.kind=2)(hx:x.kind=2)(hz:x.bytes.length+e.bytes.length<=140737488355328):
 Calls prog 105 #[.slice ao (m+1) cap,.agg #[.int .i64 e.kind,.string e.method,.string e.target,.int .i64 e.minor,.slice s.fo e.fields.length s.gM,.int .i64 e.length,.slice s.bo e.bytes.length s.gK,.string e.kW,.string e.kJ,.string e.ptype,.slice s.po e.iw.length s.jA,.int .i64 e.code]] w fun v w'=>v=.returned (.slice ao (m+1) cap)∧jR w' (gN S w) 72 5 ao cap (q++[jY (x.bytes++e.bytes)])∧Turns S w w':=by
 have k2:(e.kind==2)=true:=aT.2 hk;obtain⟨qs,sx,g,rfl,rfl,own,mem,ahead,_,_,bytes⟩:=h.last rfl;have hqm:qs.length=m:=by simpa using hm
 rw[hqm] at own;have hcap:m+1<=cap:=own.nQ.1;have hB:aj w (w.alloc (.cells #[.int .i64 e.kind,.string e.method,.string e.target,.int .i64 e.minor,.slice s.fo e.fields.length s.gM,.int .i64 e.length,.slice s.bo e.bytes.length s.gK,.string e.kW,.string e.kJ,.string e.ptype,.slice s.po e.iw.length s.jA,.int .i64 e.code] 72)):=(fJ _ w).alloc (aM _) _;have hlast:∀k,jN x.bytes sx.bo=some k->S k∧k≠g:=fun k h=>by
  unfold jN at h;split at h
  . cases h
  . rcases bytes with ⟨_,_,h3⟩ | ⟨h1,_⟩
    . cases rD:sx.bo with
      | none=>rw[rD] at h;cases h
      | some a=>rw[rD] at h;injection h with h;subst h;exact h3 a rD
    . contradiction
 have uj:∀j,j<12->(iX (qs++[(x,sx)]))[m*12+j]? = (x.cells sx)[j]?:=fun j hj=>by
  rw[rC _ m (by simp[hqm]) j hj];simp[<-hqm]
 have K9:=own.stay hB;have c0:(w.alloc (.cells #[.int .i64 e.kind,.string e.method,.string e.target,.int .i64 e.minor,.slice s.fo e.fields.length s.gM,.int .i64 e.length,.slice s.bo e.bytes.length s.gK,.string e.kW,.string e.kJ,.string e.ptype,.slice s.po e.iw.length s.jA,.int .i64 e.code] 72)).cell? ⟨g,m*12+0,none⟩=some (.int .i64 2):=(E9 K9 0 (by omega) ((uj 0 (by omega)).trans (by show some (Value.int .i64 x.kind)=_;rw[hx]))).1;have c6:(w.alloc (.cells #[.int .i64 e.kind,.string e.method,.string e.target,.int .i64 e.minor,.slice s.fo e.fields.length s.gM,.int .i64 e.length,.slice s.bo e.bytes.length s.gK,.string e.kW,.string e.kJ,.string e.ptype,.slice s.po e.iw.length s.jA,.int .i64 e.code] 72)).cell? ⟨g,m*12+6,none⟩=some (.slice sx.bo x.bytes.length sx.gK):=(E9 K9 6 (by omega) (uj 6 (by omega))).1;rw[bK] at c0;have HB:Hid (gZ (w.alloc (.cells #[.int .i64 e.kind,.string e.method,.string e.target,.int .i64 e.minor,.slice s.fo e.fields.length s.gM,.int .i64 e.length,.slice s.bo e.bytes.length s.gK,.string e.kW,.string e.kJ,.string e.ptype,.slice s.po e.iw.length s.jA,.int .i64 e.code] 72)).drew (fun k=>S k∧k≠g) 5 sx.bo sx.gK x.bytes):=(bytes.turns (Turns.of_below (S:=fun _=>False) (hB.trans (gQ _ _))) (fun _ _ e=>e));have HN:Hid (iH (w.alloc (.cells #[.int .i64 e.kind,.string e.method,.string e.target,.int .i64 e.minor,.slice s.fo e.fields.length s.gM,.int .i64 e.length,.slice s.bo e.bytes.length s.gK,.string e.kW,.string e.kJ,.string e.ptype,.slice s.po e.iw.length s.jA,.int .i64 e.code] 72)).drew s.bo s.gK e.bytes):=hE.stay (hB.trans (gQ _ _));have HK:Hid (∀W3:World,Turns (fun k=>jN x.bytes sx.bo=some k) (w.alloc (.cells #[.int .i64 e.kind,.string e.method,.string e.target,.int .i64 e.minor,.slice s.fo e.fields.length s.gM,.int .i64 e.length,.slice s.bo e.bytes.length s.gK,.string e.kW,.string e.kJ,.string e.ptype,.slice s.po e.iw.length s.jA,.int .i64 e.code] 72)).drew W3->∀j,j<12->∃u,W3.cell? ⟨g,m*12+j,none⟩=some u∧W3.frozen? ⟨g,m*12+j,none⟩=false):=fun W3 hT j hj=>by
  have h1:=(K9.stay (gQ _ _)).turns hT (fun a ha hb2=>by injection ha with ha;subst ha;exact(hlast _ hb2).2 rfl);have h2:=uj j hj;have h3:(x.cells sx)[j]? = some ((x.cells sx)[j]'(by show j<12;exact hj)):=dD _;have h4:=E9 h1 j hj (h2.trans h3);exact⟨_,h4.1,h4.2⟩
 have HE:=H9 (And.intro own (And.intro mem (And.intro ahead bytes)));obtain⟨i0,hi0,hz0,hz1,hz2⟩:=info_parts jO;have Hi:=H9 hi0;have kK:=H9 hz0;have kH:=H9 hz1;have kL:=H9 hz2
 have HZ:=H9 hz;have HQ:=H9 hqm;have m0:(0:Int)<=(m:Int):=by omega
 have m1:(m:Int)<(m:Int)+1:=by omega
 have m2:((m+1:Nat):Int)-1=(m:Int):=by omega
 clear hi0 hz0 hz1 hz2 h hk hx own K9 mem ahead bytes hlast uj hB hz hm hqm hE;go_enter func105,ntmps105;go_wp2;go_region_law
  ((refine oh (by rfl) _ _ _ (by rfl) 5 i0 underlying31 Hi.o kK.o kH.o kL.o (by rfl) (by rfl) HB.o rfl HN.o rfl HZ.o ?_;intro bo3 gX w3 hO3 pF;have oD:=H9 hO3;have HT3:=H9 pF;obtain⟨v0,d0,f0⟩:=HK.o w3 pF 0 (by decide);obtain⟨v1,d1,f1⟩:=HK.o w3 pF 1 (by decide);obtain⟨v2,d2,f2⟩:=HK.o w3 pF 2 (by decide);obtain⟨v3,d3,f3⟩:=HK.o w3 pF 3 (by decide);obtain⟨v4,d4,f4⟩:=HK.o w3 pF 4 (by decide);obtain⟨v5,d5,f5⟩:=HK.o w3 pF 5 (by decide);obtain⟨v6,d6,f6⟩:=HK.o w3 pF 6 (by decide);obtain⟨v7,d7,f7⟩:=HK.o w3 pF 7 (by decide);obtain⟨v8,d8,f8⟩:=HK.o w3 pF 8 (by decide);obtain⟨v9,d9,f9⟩:=HK.o w3 pF 9 (by decide);obtain⟨v10,d10,f10⟩:=HK.o w3 pF 10 (by decide);obtain⟨v11,d11,f11⟩:=HK.o w3 pF 11 (by decide);rw[bK] at d0 f0;clear hO3 pF))
 all_goals (go_wp2;go_ret;refine⟨rfl,?_⟩;exact Ua HE.o.1 HE.o.2.1 HE.o.2.2.1 HE.o.2.2.2 HQ.o HT3.o oD.o (by rw[aW]))
inductive ae9 (w:World)(S N:Nat->Prop)(es:List iN)(e:iN)(v:Ending)(w':World):Prop
 | mk (ao:ak) (cap n:Nat) (hv:v=.returned (.slice ao n cap)) (hn:n=(vM es e).length) (hO:jR w' (fun k=>S k∨N k∨w.heap.size<=k) 72 5 ao cap (vM es e)) (hT:Turns S w w')
theorem DI {w:World}{S:Nat->Prop}{tE tb:Nat}{ao:ak}{cap:Nat}{es:List iN}(h:jR w S tE tb ao cap es)(he:es=[]):ao=none∧cap=0:=by
 cases h with
 | bare=>exact⟨rfl,rfl⟩
 | laid q e s g cap own=>simp at he
theorem XH (w:World)(S N:Nat->Prop)(ao:ak)(cap n:Nat)(es:List iN)(e:iN)(s:EvS)(h:jR w S 72 5 ao cap es)(hE:JO w S N e s)(hn:es.length=n)(hl:n<=1000000)(hz:(qR es).length+e.bytes.length<=140737488355328):
 Calls prog 105 #[.slice ao n cap,.agg #[.int .i64 e.kind,.string e.method,.string e.target,.int .i64 e.minor,.slice s.fo e.fields.length s.gM,.int .i64 e.length,.slice s.bo e.bytes.length s.gK,.string e.kW,.string e.kJ,.string e.ptype,.slice s.po e.iw.length s.jA,.int .i64 e.code]] w fun v w'=>ae9 w S N es e v w':=by
 by_cases hp:e.kind=2∧tailD es=true
 . obtain⟨q,x,rfl,hx⟩:=pK hp.2;rw[rO] at hz;obtain⟨m,rfl⟩:∃m,n=m+1:=⟨q.length,by rw[<-hn];simp⟩;refine(Ub w S ao cap m q x e s h hE.bytes.xg (by simpa using hn) (by omega) hp.1 hx hz).mono ?_;rintro v w' ⟨rfl,hO,hT⟩;have e1:=nN q x e hx hp.1;refine .mk ao cap (m+1) rfl (by rw[e1];simp at hn ⊢;omega) ?_ hT;rw[e1];refine hO.mono (fun k _ hk=>?_);rcases hk with hk | hk
   . exact Or.inl hk
   . exact Or.inr (Or.inr hk)
 . have hq:e.kind=2->tailD es=false:=fun k=>by
    cases ht:tailD es
    . rfl
    . exact absurd ⟨k,ht⟩ hp
   have e1:=mJ es e hq;have fin:∀{v w'},vB w S N es e v w'->ae9 w S N es e v w':=by
    rintro v w' ⟨gW,cap',hv,hO,hT⟩;exact .mk gW cap' _ hv (by rw[e1];simp) (by rw[e1];exact hO) hT
   by_cases hk:e.kind=2
   . rcases bD es with hes | ⟨q,x,hes⟩
     . subst hes;subst hn;obtain⟨rfl,rfl⟩:=DI h rfl;exact(TY w S N e s hE hk).mono (fun v w' k=>fin k)
     . rw[bF] at hes;obtain⟨m,rfl⟩:∃m,n=m+1:=⟨q.length,by rw[<-hn,hes];simp⟩;refine(Pj w S N ao cap m es e s h hE hn (by omega) hk (fun y hy k=>?_)).mono (fun v w' k=>fin k);have h2:=hq hk;rw[hes,rM] at h2;rw[hes,fq] at hy;simp at hy;rw[hy] at h2;exact of_decide_eq_false h2 k
   . subst hn;exact(TW w S N ao cap es e s h hE hl hk).mono (fun v w' k=>fin k)
abbrev nW (w:World)(S:Nat->Prop)(ao:ak)(cap:Nat)(es:List Rq.Ev):Prop:=jR w S 72 5 ao cap (es.map Rq.Ev.d)
inductive MB (w:World)(S N:Nat->Prop)(es:List Rq.Ev)(e:Rq.Ev)(v:Ending)(w':World):Prop
 | mk (ao:ak) (cap n:Nat) (hv:v=.returned (.slice ao n cap)) (hn:n=(Rq.join (es++[e])).length) (hO:nW w' (fun k=>S k∨N k∨w.heap.size<=k) ao cap (Rq.join (es++[e]))) (hT:Turns S w w')
theorem xX (w:World)(S N:Nat->Prop)(ao:ak)(cap n:Nat)(es:List Rq.Ev)(e:Rq.Ev)(s:EvS)(h:nW w S ao cap es)(hE:JO w S N e.d s)(hn:es.length=n)(hl:n<=100000)(hj:Rq.Joined es)(_hf:Rq.Full es)(hb:∀a,e=.body a->a≠[]∧a.length<=100000)(hz:Rq.jE es<=100000):
 Calls prog 105 #[.slice ao n cap,.agg #[.int .i64 e.d.kind,.string e.d.method,.string e.d.target,.int .i64 e.d.minor,.slice s.fo e.d.fields.length s.gM,.int .i64 e.d.length,.slice s.bo e.d.bytes.length s.gK,.string e.d.kW,.string e.d.kJ,.string e.d.ptype,.slice s.po e.d.iw.length s.jA,.int .i64 e.d.code]] w fun v w'=>MB w S N es e v w':=by
 have hm:(es.map Rq.Ev.d).length=n:=by rw[aF];exact hn
 have hs1:(qR (es.map Rq.Ev.d)).length<=100000:=by
  have:=Jb (es.map Rq.Ev.d);rw[Fa] at this;omega
 have hs2:e.d.bytes.length<=100000:=by
  cases e with
  | body a=>exact(hb a rfl).2
  | head _=>exact aA _
  | fin=>exact aA _
  | fail _=>exact aA _
 refine(XH w S N ao cap n (es.map Rq.Ev.d) e.d s h hE hm (by omega) (by omega)).mono ?_;rintro v w' ⟨gW,cap',n',hv,hn',hO,hT⟩;rw[acO hj] at hn' hO;exact .mk gW cap' n' hv (by rw[hn',aF]) hO hT
theorem JQ (w:World)(S:Nat->Prop)(ao:ak)(cap n:Nat)(es:List Rq.Ev)(h:nW w S ao cap es)(hn:es.length=n)(hl:n<=100000)(hj:Rq.Joined es)(hf:Rq.Full es)(hz:Rq.jE es<=100000):
 Calls prog 105 #[.slice ao n cap,.agg #[.int .i64 3,.string ⟨#[]⟩,.string ⟨#[]⟩,.int .i64 0,.slice none 0 0,.int .i64 0,.slice none 0 0,.string ⟨#[]⟩,.string ⟨#[]⟩,.string ⟨#[]⟩,.slice none 0 0,.int .i64 0]] w fun v w'=>MB w S (fun _=>False) es .fin v w' :=
 xX w S (fun _=>False) ao cap n es .fin ⟨none,0,none,0,none,0⟩ h ⟨nE.nil _ _,ko.nil _ _,gZ.nil _ _ _,fun _ _ e=>e⟩ hn hl hj hf (fun a e=>by cases e) hz
theorem XI (w:World)(S:Nat->Prop)(ao:ak)(cap n c:Nat)(es:List Rq.Ev)(h:nW w S ao cap es)(hn:es.length=n)(hl:n<=100000)(hj:Rq.Joined es)(hf:Rq.Full es)(hz:Rq.jE es<=100000):
 Calls prog 105 #[.slice ao n cap,.agg #[.int .i64 4,.string ⟨#[]⟩,.string ⟨#[]⟩,.int .i64 0,.slice none 0 0,.int .i64 0,.slice none 0 0,.string ⟨#[]⟩,.string ⟨#[]⟩,.string ⟨#[]⟩,.slice none 0 0,.int .i64 (c:Int)]] w fun v w'=>MB w S (fun _=>False) es (.fail c) v w' :=
 xX w S (fun _=>False) ao cap n es (.fail c) ⟨none,0,none,0,none,0⟩ h ⟨nE.nil _ _,ko.nil _ _,gZ.nil _ _ _,fun _ _ e=>e⟩ hn hl hj hf (fun a e=>by cases e) hz
theorem Fb (w:World)(S N:Nat->Prop)(ao bo:ak)(cap n bc m:Nat)(b:av)(es:List Rq.Ev)(h:nW w S ao cap es)(hB:gZ w N 5 bo bc b)(hb:b≠[])(hm:b.length=m)(hm2:m<=100000)(hN:∀k,S k->¬N k)(hn:es.length=n)(hl:n<=100000)(hj:Rq.Joined es)(hf:Rq.Full es)(hz:Rq.jE es<=100000):
 Calls prog 105 #[.slice ao n cap,.agg #[.int .i64 2,.string ⟨#[]⟩,.string ⟨#[]⟩,.int .i64 0,.slice none 0 0,.int .i64 0,.slice bo m bc,.string ⟨#[]⟩,.string ⟨#[]⟩,.string ⟨#[]⟩,.slice none 0 0,.int .i64 0]] w fun v w'=>MB w S N es (.body b) v w':=by
 subst hm;exact xX w S N ao cap n es (.body b) ⟨none,0,bo,bc,none,0⟩ h ⟨nE.nil _ _,ko.nil _ _,hB,hN⟩ hn hl hj hf (fun a e=>by injection e with e;subst e;exact⟨hb,hm2⟩) hz
theorem XJ (w:World)(S N:Nat->Prop)(ao fo:ak)(cap n fc m:Nat)(hd:Rq.Hd)(es:List Rq.Ev)(h:nW w S ao cap es)(hF:nE w N fo fc m (gU (Rq.ny hd.fields)))(hm:hd.fields.length=m)(hN:∀k,S k->¬N k)(hn:es.length=n)(hl:n<=100000)(hj:Rq.Joined es)(hf:Rq.Full es)(hz:Rq.jE es<=100000):
 Calls prog 105 #[.slice ao n cap,.agg #[.int .i64 1,.string ⟨hd.method.toArray⟩,.string ⟨hd.target.toArray⟩,.int .i64 (hd.minor:Int),.slice fo m fc,.int .i64 hd.length,.slice none 0 0,.string ⟨#[]⟩,.string ⟨#[]⟩,.string ⟨#[]⟩,.slice none 0 0,.int .i64 0]] w fun v w'=>MB w S N es (.head hd) v w':=by
 have hm':(Rq.ny hd.fields).length=m:=by rw[Rq.kV];exact hm
 subst hm';exact xX w S N ao cap n es (.head hd) ⟨fo,fc,none,0,none,0⟩ h ⟨hF.mono (fun k _ e=>⟨e,by simp[lastB,Rq.Ev.d]⟩),ko.nil _ _,gZ.nil _ _ _,hN⟩ hn hl hj hf (fun a e=>by cases e) hz
end Go.Proofs.YtjmndjmhjleabaaGreatDoor