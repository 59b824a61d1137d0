/- Small texts, one behind the other: StClone, CsTrim, FmMk. -/
import Derived.Test.YthhklgjjnaeaoaaGreatDoorShelf
import Derived.Test.YthhklgjjnaeaoaaGreatDoorPk16
import Derived.Test.YthhklgjjnaeaoaaGreatDoorPk5
open Go.Value renaming string->V
open Go.Ending renaming returned->Y
open Bool renaming false->F
set_option maxHeartbeats 2000000
set_option maxRecDepth 100000
open Go.Proofs.Tryz
namespace Go.Proofs.YthhklgjjnaeaoaaGreatDoor
open Go.RowKit
theorem Io (s:ay)(w:World)(c:s.size<=281474976710656):
 Calls prog 113 #[V s] w fun e w'=>e=Y (V s)∧Below w.heap.size w w':=by
 have a:=Any.stringslite_Clone Tryz.lays316 s w (by omega);change Calls prog 166 _ _ (fun e w'=>e=Y (V s)∧Below w.heap.size w w') at a;go_enter func113,ntmps113;go_wp2_with (go_at_call 166;refine a.mono ?_;rintro e w' ⟨rfl,b⟩)
 go_ret;exact⟨rfl,b⟩
theorem kW (s:ay)(w:World)(a:s.size<=1000000):
 Calls prog 113 #[V s] w fun e w'=>e=Y (V s)∧Below w.heap.size w w':=Io s w (by omega)
theorem sN (s:ay)(w:World)(g:s.size<=200000):
 Calls prog 239 #[V s] w fun e w'=>e=Y (V ⟨(Lib.trimS s.data.toList Ch.ws).toArray⟩)∧Below w.heap.size w w':=by
 have a:=Any.strings_Trim_laid Tryz.lays160 (by kernel_rfl) s ⟨#[32,9]⟩ w (by omega) (by decide) (ascii_of_all (by decide));change Calls prog 273 _ _ (fun e w'=>e=Y (V ⟨(Lib.trimS s.data.toList Ch.ws).toArray⟩)∧Below w.heap.size w w') at a;have c:(⟨(Lib.trimS s.data.toList Ch.ws).toArray⟩:ay).size<=200000:=by
  have d:=yO s.data.toList;rw[Ch.iK] at d;show(Lib.trimS s.data.toList Ch.ws).toArray.size<=200000;rw[bK];omega
 generalize (⟨(Lib.trimS s.data.toList Ch.ws).toArray⟩:ay)=r at a c ⊢;go_enter func239,ntmps239;go_wp2_with (go_at_call 273;refine a.mono ?_;rintro e i ⟨rfl,f⟩)
 go_wp2_with fail
 refine(kW _ _ (by omega)).mono ?_;rintro e j ⟨rfl,b⟩;go_wp2;go_ret;exact⟨rfl,then_ f b⟩
theorem Xp (s:ay)(w:World):
 Calls prog 275 #[V s] w fun e w'=>e=Y (.bool (Fm.kV s.data.toList))∧Below w.heap.size w w':=by
 have k:=Ch.iK s;by_cases c:s.data.toList=[]
 . have a:Hid (Fm.kV s.data.toList=F):=by unfold Hid Fm.kV;rw[c];rfl
   have l:(s.toList==[])=true:=by rw[aS,Lib.toList_data];exact c
   go_enter func275,ntmps275;go_wp2;go_ret;exact⟨by rw[a.o];rfl,eY _ _⟩
 . have l:(s.toList==[])=F:=by rw[aR,Lib.toList_data];exact c
   have g:s.data.toList.isEmpty=F:=by rw[List.isEmpty_eq_false_iff];exact c
   by_cases b:s.size<=70
   . have i:decide ((s.size:Int)<=70)=true:=aI (by omega);have d:=fun W=>kJ s W (by unfold maxLen;omega);have m:=fun W=>sN s W (by omega);cases f:Ch.gV s.data.toList with
     | false =>
       rw[f] at d;have a:Hid (Fm.kV s.data.toList=F):=by unfold Hid Fm.kV;rw[f];simp
       go_enter func275,ntmps275;go_wp2_with (go_at_call 238;refine(d _).mono ?_;rintro e n ⟨rfl,j⟩;subst j)
       go_ret;exact⟨by rw[a.o];rfl,eY _ _⟩
     | true =>
       rw[f] at d;have p:Fm.kV s.data.toList=decide (Lib.trimS s.data.toList Ch.ws=s.data.toList):=by
        unfold Fm.kV;rw[g,f,k,aI b];simp
       have r:((⟨(Lib.trimS s.data.toList Ch.ws).toArray⟩:ay).toList==s.toList)=decide (Lib.trimS s.data.toList Ch.ws=s.data.toList):=by
        rw[Lib.toList_data,Lib.toList_data,aH];simp
       generalize decide (Lib.trimS s.data.toList Ch.ws=s.data.toList)=t at *;generalize (⟨(Lib.trimS s.data.toList Ch.ws).toArray⟩:ay)=tr at *;go_enter func275,ntmps275;go_wp2_with (first
        | (go_at_call 238;refine(d _).mono ?_;rintro e n ⟨rfl,j⟩;subst j)
        | (go_at_call 239;refine(m _).mono ?_;rintro e u ⟨rfl,q⟩))
       go_ret;exact⟨by rw[p];rfl,q⟩
   . have i:decide ((s.size:Int)<=70)=F:=aJ (by omega);have a:Hid (Fm.kV s.data.toList=F):=by unfold Hid Fm.kV;rw[k,aJ b];simp
     go_enter func275,ntmps275;go_wp2;go_ret;exact⟨by rw[a.o];rfl,eY _ _⟩
theorem zJ {l:av}(h:Fm.kV l=true):l≠[]∧l.length<=70:=by grind [Fm.kV]
end Go.Proofs.YthhklgjjnaeaoaaGreatDoor