/- Small texts, one behind the other: MemU, MemUB. -/
import Derived.Test.YtjmndjmhjleabaaGreatDoorAl
import Derived.Test.YtjmndjmhjleabaaGreatDoorAm
import Derived.Test.YtjmndjmhjleabaaGreatDoorPk11
import Derived.Test.YtjmndjmhjleabaaGreatDoorPk4
namespace Go.Proofs.YtjmndjmhjleabaaGreatDoor
open Go.RowKit
structure yQ where
 bo:ak
 gK:Nat
def vF (u:Sp.Up)(s:yQ):List Value:=[.int .i64 u.id,.int .i64 u.size,.string u.note,.slice s.bo u.bytes.length s.gK,.int .i64 u.sent]
def tN (us:List (Sp.Up×yQ)):List Value:=us.flatMap fun x=>vF x.1 x.2
theorem uQ (a b:List (Sp.Up×yQ)):tN (a++b)=tN a++tN b:=by simp[tN]
theorem Zg (u:Sp.Up)(s:yQ):tN [(u,s)]=vF u s:=by simp[tN]
theorem rT (us:List (Sp.Up×yQ)):(tN us).length=us.length*5:=by
 induction us with
 | nil=>rfl
 | cons p t ih =>
   have e:(vF p.1 p.2).length=5:=rfl;simp only[tN,aV,aW,aX] at ih ⊢;rw[ih,e];omega
theorem Qs (u:Sp.Up)(s:yQ):∀v∈vF u s,v.oneCell'=true:=by
 intro v hv;simp only[vF,fB,List.not_mem_nil,or_false] at hv;rcases hv with rfl | rfl | rfl | rfl | rfl <;> rfl
theorem uR:∀(us:List (Sp.Up×yQ)) (i:Nat) (hi:i<us.length) (j:Nat),j<5->(tN us)[i*5+j]? = (vF us[i].1 us[i].2)[j]?
 | p :: t, 0, _, j, hj => by
   show(vF p.1 p.2++tN t)[0*5+j]? = _;rw[aY (by rw[show(vF p.1 p.2).length=5 from rfl];omega),aZ,bq];rfl
 | p :: t, i + 1, hi, j, hj => by
   show(vF p.1 p.2++tN t)[(i+1)*5+j]? = _;rw[bA (by rw[show(vF p.1 p.2).length=5 from rfl];omega),show(vF p.1 p.2).length=5 from rfl,show(i+1)*5+j-5=i*5+j by omega];exact uR t i (by simpa using hi) j hj
def pW (w:World)(ao:ak)(cap:Nat)(l:List Sp.Up):Prop:=∃us:List (Sp.Up×yQ),us.map (·.1)=l∧jo w ao cap l.length (tN us)∧∀x∈us,iH w x.2.bo x.2.gK x.1.bytes
theorem pW.stay {w w':World}{ao:ak}{cap:Nat}{l:List Sp.Up}(h:pW w ao cap l)(hb:aj w w'):pW w' ao cap l:=by
 obtain⟨us,h1,h2,h3⟩:=h;exact⟨us,h1,h2.stay hb,fun x hx=>(h3 x hx).stay hb⟩
theorem pW.at_ {w:World}{ao:ak}{cap:Nat}{l:List Sp.Up}(h:pW w ao cap l)(k:Nat)(hk:k<l.length):∃(b o:Nat) (s:yQ),ao=some ⟨b,o,none⟩∧w.cell? ⟨b,o+k*5,none⟩=some (.int .i64 l[k].id)∧w.cell? ⟨b,o+k*5+1,none⟩=some (.int .i64 l[k].size)∧w.cell? ⟨b,o+k*5+2,none⟩=some (.string l[k].note)∧w.cell? ⟨b,o+k*5+3,none⟩=some (.slice s.bo l[k].bytes.length s.gK)∧w.cell? ⟨b,o+k*5+4,none⟩=some (.int .i64 l[k].sent)∧iH w s.bo s.gK l[k].bytes:=by
 obtain⟨us,rfl,hv,hb⟩:=h;have hk':k<us.length:=by simpa using hk
 obtain⟨b,o,rfl,hc⟩:=hv.lit (by rw[rT];omega);have hq:=hb _ (aC hk');have e0:=uR us k hk' 0 (by decide);have e1:=uR us k hk' 1 (by decide);have e2:=uR us k hk' 2 (by decide);have e3:=uR us k hk' 3 (by decide);have e4:=uR us k hk' 4 (by decide);refine⟨b,o,us[k].2,rfl,?_,?_,?_,?_,?_,?_⟩
 . rw[aG];exact hc _ _ (by rw[bK] at e0;exact e0)
 . rw[aG,bL];exact hc _ _ e1
 . rw[aG,bL];exact hc _ _ e2
 . rw[aG,bL];exact hc _ _ e3
 . rw[aG,bL];exact hc _ _ e4
 . rw[aG];exact hq
def K7 (w:World)(S:Nat->Prop)(tU:Nat)(ao:ak)(cap:Nat)(l:List Sp.Up):Prop :=
 ∃us:List (Sp.Up×yQ),us.map (·.1)=l∧gV w 0 tU 5 ao cap l.length (tN us)∧(∀a,ao=some a->S a.block)∧∀x∈us,ko w (fun k=>S k∧gL ao≠some k) x.2.bo x.2.gK x.1.bytes
section
variable {w w':World} {S S':Nat->Prop} {tU:Nat} {ao:ak} {cap:Nat} {l:List Sp.Up}
theorem K7.zL (h:K7 w S tU ao cap l):pW w ao cap l:=by
 obtain⟨us,h1,h2,_,h4⟩:=h;exact⟨us,h1,h2.nQ,fun x hx=>(h4 x hx).is⟩
end
theorem Ed:∀(us:List (Sp.Up×yQ)) (i:Nat) (hi:i<us.length) (j:Nat) (v:Value) (x:Sp.Up×yQ),j<5->(vF us[i].1 us[i].2).set j v=vF x.1 x.2->(tN us).set (i*5+j) v=tN (us.set i x)
 | p :: t, 0, _, j, v, x, hj, h => by
   show(vF p.1 p.2++tN t).set (0*5+j) v=vF x.1 x.2++tN t;rw[aZ,bq,List.set_append_left _ _ (by rw[show(vF p.1 p.2).length=5 from rfl];exact hj)];exact bE (·++tN t) h
 | p :: t, i + 1, hi, j, v, x, hj, h => by
   show(vF p.1 p.2++tN t).set ((i+1)*5+j) v=vF p.1 p.2++tN (t.set i x);rw[bI _ _ (by rw[show(vF p.1 p.2).length=5 from rfl];omega),show(vF p.1 p.2).length=5 from rfl,show(i+1)*5+j-5=i*5+j by omega];exact bE (vF p.1 p.2++·) (Ed t i (by simpa using hi) j v x hj h)
section
variable {w w1:World} {S N:Nat->Prop} {tU:Nat} {ao:ak} {cap:Nat} {l:List Sp.Up}
theorem K7.row (h:K7 w S tU ao cap l)(i:Nat)(hi:i<l.length):∃g,ao=some ⟨g,0,none⟩∧S g∧l.length<=cap∧∀j,j<5->(∃v,w.cell? ⟨g,i*5+j,none⟩=some v)∧w.frozen? ⟨g,i*5+j,none⟩=false:=by
 obtain⟨us,rfl,h2,h3,_⟩:=h;have hi':i<us.length:=by simpa using hi
 obtain⟨g,rfl⟩:∃g,ao=some ⟨g,0,none⟩:=by
  rcases h2.2 with ⟨_,h⟩ | ⟨g,cap,cur,h,_⟩
  . omega
  . injection h with h _ _;exact⟨g,h⟩
 refine⟨g,rfl,h3 _ rfl,h2.nQ.1,fun j hj=>⟨?_,fU h2 _⟩⟩;have e:=uR us i hi' j hj;rw[dD (show j<(vF us[i].1 us[i].2).length from hj)] at e;exact⟨_,(fT h2 (i*5+j) (by omega)).trans e⟩
end
end Go.Proofs.YtjmndjmhjleabaaGreatDoor