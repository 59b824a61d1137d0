/- Small texts, one behind the other: MemU, MemUB. -/
import Derived.Test.YtjmndjmhjleabaaGreatDoorPk11
import Derived.Test.YtjmndjmhjleabaaGreatDoorPk4
namespace Go.Proofs.YtjmndjmhjleabaaGreatDoor
open Go.RowKit
structure qK where
 bo:Option Addr
 aj:Nat
def nM (u:Sp.Up)(s:qK):List Value:=[.int .i64 u.id,.int .i64 u.size,.string u.note,.slice s.bo u.bytes.length s.aj,.int .i64 u.sent]
def lX (us:List (Sp.Up×qK)):List Value:=us.flatMap fun x=>nM x.1 x.2
theorem mZ (a b:List (Sp.Up×qK)):lX (a++b)=lX a++lX b:=by simp[lX]
theorem RB (u:Sp.Up)(s:qK):lX [(u,s)]=nM u s:=by simp[lX]
theorem kP (us:List (Sp.Up×qK)):(lX us).length=us.length*5:=by
 induction us with
 | nil=>rfl
 | cons p t ih =>
   have e:(nM p.1 p.2).length=5:=rfl;simp only[lX,List.flatMap_cons,List.length_append,List.length_cons] at ih ⊢;rw[ih,e];omega
theorem Jw (u:Sp.Up)(s:qK):∀v∈nM u s,v.oneCell'=true:=by
 intro v hv;simp only[nM,List.mem_cons,List.not_mem_nil,or_false] at hv;rcases hv with rfl | rfl | rfl | rfl | rfl <;> rfl
theorem ng:∀(us:List (Sp.Up×qK)) (i:Nat) (hi:i<us.length) (j:Nat),j<5->(lX us)[i*5+j]? = (nM us[i].1 us[i].2)[j]?
 | p :: t, 0, _, j, hj => by
   show(nM p.1 p.2++lX t)[0*5+j]? = _;rw[List.getElem?_append_left (by rw[show(nM p.1 p.2).length=5 from rfl];omega),Nat.zero_mul,Nat.zero_add];rfl
 | p :: t, i + 1, hi, j, hj => by
   show(nM p.1 p.2++lX t)[(i+1)*5+j]? = _;rw[List.getElem?_append_right (by rw[show(nM p.1 p.2).length=5 from rfl];omega),show(nM p.1 p.2).length=5 from rfl,show(i+1)*5+j-5=i*5+j by omega];exact ng t i (by simpa using hi) j hj
def jH (w:World)(ao:Option Addr)(cap:Nat)(l:List Sp.Up):Prop:=∃us:List (Sp.Up×qK),us.map (·.1)=l∧cu w ao cap l.length (lX us)∧∀x∈us,aU w x.2.bo x.2.aj x.1.bytes
theorem jH.stay {w w':World}{ao:Option Addr}{cap:Nat}{l:List Sp.Up}(h:jH w ao cap l)(hb:Below w.heap.size w w'):jH w' ao cap l:=by
 obtain⟨us,h1,h2,h3⟩:=h;exact⟨us,h1,h2.stay hb,fun x hx=>(h3 x hx).stay hb⟩
theorem jH.at_ {w:World}{ao:Option Addr}{cap:Nat}{l:List Sp.Up}(h:jH w ao cap l)(k:Nat)(hk:k<l.length):∃(b o:Nat) (s:qK),ao=some ⟨b,o,none⟩∧w.cell? ⟨b,o+k*5,none⟩=some (.int .i64 l[k].id)∧w.cell? ⟨b,o+k*5+1,none⟩=some (.int .i64 l[k].size)∧w.cell? ⟨b,o+k*5+2,none⟩=some (.string l[k].note)∧w.cell? ⟨b,o+k*5+3,none⟩=some (.slice s.bo l[k].bytes.length s.aj)∧w.cell? ⟨b,o+k*5+4,none⟩=some (.int .i64 l[k].sent)∧aU w s.bo s.aj l[k].bytes:=by
 obtain⟨us,rfl,hv,hb⟩:=h;have hk':k<us.length:=by simpa using hk
 obtain⟨b,o,rfl,hc⟩:=hv.lit (by rw[kP];omega);have hq:=hb _ (List.getElem_mem hk');have e0:=ng us k hk' 0 (by decide);have e1:=ng us k hk' 1 (by decide);have e2:=ng us k hk' 2 (by decide);have e3:=ng us k hk' 3 (by decide);have e4:=ng us k hk' 4 (by decide);refine⟨b,o,us[k].2,rfl,?_,?_,?_,?_,?_,?_⟩
 . rw[List.getElem_map];exact hc _ _ (by rw[Nat.add_zero] at e0;exact e0)
 . rw[List.getElem_map,Nat.add_assoc];exact hc _ _ e1
 . rw[List.getElem_map,Nat.add_assoc];exact hc _ _ e2
 . rw[List.getElem_map,Nat.add_assoc];exact hc _ _ e3
 . rw[List.getElem_map,Nat.add_assoc];exact hc _ _ e4
 . rw[List.getElem_map];exact hq
def Ed (w:World)(S:Nat->Prop)(tU:Nat)(ao:Option Addr)(cap:Nat)(l:List Sp.Up):Prop :=
 ∃us:List (Sp.Up×qK),us.map (·.1)=l∧aC w 0 tU 5 ao cap l.length (lX us)∧(∀a,ao=some a->S a.block)∧∀x∈us,eX w (fun k=>S k∧au ao≠some k) x.2.bo x.2.aj x.1.bytes
section
variable {w w':World} {S S':Nat->Prop} {tU:Nat} {ao:Option Addr} {cap:Nat} {l:List Sp.Up}
theorem Ed.rT (h:Ed w S tU ao cap l):jH w ao cap l:=by
 obtain⟨us,h1,h2,_,h4⟩:=h;exact⟨us,h1,h2.lQ,fun x hx=>(h4 x hx).is⟩
end
theorem xW:∀(us:List (Sp.Up×qK)) (i:Nat) (hi:i<us.length) (j:Nat) (v:Value) (x:Sp.Up×qK),j<5->(nM us[i].1 us[i].2).set j v=nM x.1 x.2->(lX us).set (i*5+j) v=lX (us.set i x)
 | p :: t, 0, _, j, v, x, hj, h => by
   show(nM p.1 p.2++lX t).set (0*5+j) v=nM x.1 x.2++lX t;rw[Nat.zero_mul,Nat.zero_add,List.set_append_left _ _ (by rw[show(nM p.1 p.2).length=5 from rfl];exact hj)];exact congrArg (·++lX t) h
 | p :: t, i + 1, hi, j, v, x, hj, h => by
   show(nM p.1 p.2++lX t).set ((i+1)*5+j) v=nM p.1 p.2++lX (t.set i x);rw[List.set_append_right _ _ (by rw[show(nM p.1 p.2).length=5 from rfl];omega),show(nM p.1 p.2).length=5 from rfl,show(i+1)*5+j-5=i*5+j by omega];exact congrArg (nM p.1 p.2++·) (xW t i (by simpa using hi) j v x hj h)
section
variable {w w1:World} {S N:Nat->Prop} {tU:Nat} {ao:Option Addr} {cap:Nat} {l:List Sp.Up}
theorem Ed.row (h:Ed w S tU ao cap l)(i:Nat)(hi:i<l.length):∃g,ao=some ⟨g,0,none⟩∧S g∧l.length<=cap∧∀j,j<5->(∃v,w.cell? ⟨g,i*5+j,none⟩=some v)∧w.frozen? ⟨g,i*5+j,none⟩=false:=by
 obtain⟨us,rfl,h2,h3,_⟩:=h;have hi':i<us.length:=by simpa using hi
 obtain⟨g,rfl⟩:∃g,ao=some ⟨g,0,none⟩:=by
  rcases h2.2 with ⟨_,h⟩ | ⟨g,cap,cur,h,_⟩
  . omega
  . injection h with h _ _;exact⟨g,h⟩
 refine⟨g,rfl,h3 _ rfl,h2.lQ.1,fun j hj=>⟨?_,World.ownsRow.frozenAt h2 _⟩⟩;have e:=ng us i hi' j hj;rw[List.getElem?_eq_getElem (show j<(nM us[i].1 us[i].2).length from hj)] at e;exact⟨_,(World.ownsRow.cellAt h2 (i*5+j) (by omega)).trans e⟩
end
end Go.Proofs.YtjmndjmhjleabaaGreatDoor