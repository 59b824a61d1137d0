/- Small texts, one behind the other: MemU, MemUB. -/
import Derived.Test.YtjmndjmhjleabaaGreatDoorPk11
import Derived.Test.YtjmndjmhjleabaaGreatDoorPk4
namespace Go.Proofs.YtjmndjmhjleabaaGreatDoor
open Go.RowKit
structure tQ where
 bo:Option Addr
 aj:Nat
def pO (u:Sp.Up) (s:tQ):List Value:=[.int .i64 u.id,.int .i64 u.size,.string u.note,.slice s.bo u.bytes.length s.aj,.int .i64 u.sent]
def nT (us:List (Sp.Up×tQ)):List Value:=us.flatMap fun x=>pO x.1 x.2
theorem oU (a b:List (Sp.Up×tQ)):nT (a++b)=nT a++nT b:=by simp [nT]
theorem WA (u:Sp.Up) (s:tQ):nT [(u,s)]=pO u s:=by simp [nT]
theorem mJ (us:List (Sp.Up×tQ)):(nT us).length=us.length*5:=by
 induction us with
 | nil=>rfl
 | cons p t ih =>
   have e:(pO p.1 p.2).length=5:=rfl;simp only [nT,List.flatMap_cons,List.length_append,List.length_cons] at ih ⊢;rw [ih,e];omega
theorem M8 (u:Sp.Up) (s:tQ):∀ v∈pO u s,v.oneCell'=true:=by
 intro v hv;simp only [pO,List.mem_cons,List.not_mem_nil,or_false] at hv;rcases hv with rfl | rfl | rfl | rfl | rfl <;> rfl
theorem oV:∀ (us:List (Sp.Up×tQ)) (i:Nat) (hi:i<us.length) (j:Nat),j<5→(nT us)[i*5+j]? = (pO us[i].1 us[i].2)[j]?
 | p :: t, 0, _, j, hj => by
   show (pO p.1 p.2++nT t)[0*5+j]? = _;rw [List.getElem?_append_left (by rw [show (pO p.1 p.2).length=5 from rfl];omega),Nat.zero_mul,Nat.zero_add];rfl
 | p :: t, i + 1, hi, j, hj => by
   show (pO p.1 p.2++nT t)[(i+1)*5+j]? = _;rw [List.getElem?_append_right (by rw [show (pO p.1 p.2).length=5 from rfl];omega),show (pO p.1 p.2).length=5 from rfl,show (i+1)*5+j - 5=i*5+j by omega];exact oV t i (by simpa using hi) j hj
def kH (w:World) (ao:Option Addr) (cap:Nat) (l:List Sp.Up):Prop:=∃ us:List (Sp.Up×tQ),us.map (·.1)=l∧bS w ao cap l.length (nT us)∧∀ x∈us,aT w x.2.bo x.2.aj x.1.bytes
theorem kH.stay {w w':World} {ao:Option Addr} {cap:Nat} {l:List Sp.Up} (h:kH w ao cap l) (hb:Below w.heap.size w w'):kH w' ao cap l:=by
 obtain ⟨us,h1,h2,h3⟩:=h;exact ⟨us,h1,h2.stay hb,fun x hx=>(h3 x hx).stay hb⟩
theorem kH.at_ {w:World} {ao:Option Addr} {cap:Nat} {l:List Sp.Up} (h:kH w ao cap l) (k:Nat) (hk:k<l.length):∃ (b o:Nat) (s:tQ),ao=some ⟨b,o,none⟩∧w.cell? ⟨b,o+k*5,none⟩=some (.int .i64 l[k].id)∧w.cell? ⟨b,o+k*5+1,none⟩=some (.int .i64 l[k].size)∧w.cell? ⟨b,o+k*5+2,none⟩=some (.string l[k].note)∧w.cell? ⟨b,o+k*5+3,none⟩=some (.slice s.bo l[k].bytes.length s.aj)∧w.cell? ⟨b,o+k*5+4,none⟩=some (.int .i64 l[k].sent)∧aT w s.bo s.aj l[k].bytes:=by
 obtain ⟨us,rfl,hv,hb⟩:=h;have hk':k<us.length:=by simpa using hk
 obtain ⟨b,o,rfl,hc⟩:=hv.lit (by rw [mJ];omega);have hq:=hb _ (List.getElem_mem hk');have e0:=oV us k hk' 0 (by decide);have e1:=oV us k hk' 1 (by decide);have e2:=oV us k hk' 2 (by decide);have e3:=oV us k hk' 3 (by decide);have e4:=oV us k hk' 4 (by decide);refine ⟨b,o,us[k].2,rfl,?_,?_,?_,?_,?_,?_⟩
 · rw [List.getElem_map];exact hc _ _ (by rw [Nat.add_zero] at e0;exact e0)
 · rw [List.getElem_map,Nat.add_assoc];exact hc _ _ e1
 · rw [List.getElem_map,Nat.add_assoc];exact hc _ _ e2
 · rw [List.getElem_map,Nat.add_assoc];exact hc _ _ e3
 · rw [List.getElem_map,Nat.add_assoc];exact hc _ _ e4
 · rw [List.getElem_map];exact hq
def Hw (w:World) (S:Nat→Prop) (tU:Nat) (ao:Option Addr) (cap:Nat) (l:List Sp.Up):Prop :=
 ∃ us:List (Sp.Up×tQ),us.map (·.1)=l∧aD w 0 tU 5 ao cap l.length (nT us)∧(∀ a,ao=some a→S a.block)∧∀ x∈us,dQ w (fun k=>S k∧ak ao≠some k) x.2.bo x.2.aj x.1.bytes
section
variable {w w':World} {S S':Nat→Prop} {tU:Nat} {ao:Option Addr} {cap:Nat} {l:List Sp.Up}
theorem Hw.uV (h:Hw w S tU ao cap l):kH w ao cap l:=by
 obtain ⟨us,h1,h2,_,h4⟩:=h;exact ⟨us,h1,h2.jg,fun x hx=>(h4 x hx).is⟩
end
theorem Al:∀ (us:List (Sp.Up×tQ)) (i:Nat) (hi:i<us.length) (j:Nat) (v:Value) (x:Sp.Up×tQ),j<5→(pO us[i].1 us[i].2).set j v=pO x.1 x.2→(nT us).set (i*5+j) v=nT (us.set i x)
 | p :: t, 0, _, j, v, x, hj, h => by
   show (pO p.1 p.2++nT t).set (0*5+j) v=pO x.1 x.2++nT t;rw [Nat.zero_mul,Nat.zero_add,List.set_append_left _ _ (by rw [show (pO p.1 p.2).length=5 from rfl];exact hj)];exact congrArg (·++nT t) h
 | p :: t, i + 1, hi, j, v, x, hj, h => by
   show (pO p.1 p.2++nT t).set ((i+1)*5+j) v=pO p.1 p.2++nT (t.set i x);rw [List.set_append_right _ _ (by rw [show (pO p.1 p.2).length=5 from rfl];omega),show (pO p.1 p.2).length=5 from rfl,show (i+1)*5+j - 5=i*5+j by omega];exact congrArg (pO p.1 p.2++·) (Al t i (by simpa using hi) j v x hj h)
section
variable {w w1:World} {S N:Nat→Prop} {tU:Nat} {ao:Option Addr} {cap:Nat} {l:List Sp.Up}
theorem Hw.row (h:Hw w S tU ao cap l) (i:Nat) (hi:i<l.length):∃ g,ao=some ⟨g,0,none⟩∧S g∧l.length≤cap∧∀ j,j<5→(∃ v,w.cell? ⟨g,i*5+j,none⟩=some v)∧w.frozen? ⟨g,i*5+j,none⟩=false:=by
 obtain ⟨us,rfl,h2,h3,_⟩:=h;have hi':i<us.length:=by simpa using hi
 obtain ⟨g,rfl⟩:∃ g,ao=some ⟨g,0,none⟩:=by
  rcases h2.2 with ⟨_,h⟩ | ⟨g,cap,cur,h,_⟩
  · omega
  · injection h with h _ _;exact ⟨g,h⟩
 refine ⟨g,rfl,h3 _ rfl,h2.jg.1,fun j hj=>⟨?_,World.ownsRow.frozenAt h2 _⟩⟩;have e:=oV us i hi' j hj;rw [List.getElem?_eq_getElem (show j<(pO us[i].1 us[i].2).length from hj)] at e;exact ⟨_,(World.ownsRow.cellAt h2 (i*5+j) (by omega)).trans e⟩
end
end Go.Proofs.YtjmndjmhjleabaaGreatDoor