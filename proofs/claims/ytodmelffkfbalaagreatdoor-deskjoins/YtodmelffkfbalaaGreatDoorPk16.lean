import Derived.Test.YtodmelffkfbalaaGreatDoorPk7
import Derived.Test.YtodmelffkfbalaaGreatDoorShelf
import Derived.Test.YtodmelffkfbalaaGreatDoorPk15
open Go.Value renaming string->V
open Go.Ending renaming returned->Y
open Bool renaming false->F
set_option maxHeartbeats 2000000
set_option maxRecDepth 100000
open Go.Proofs.Tryz
namespace Go.Proofs.YtodmelffkfbalaaGreatDoor
open Go.RowKit
theorem LX (s:ae)(w:World)(c:s.size<=281474976710656):
 Calls prog 135 #[V s] w fun e w'=>e=Y (V s)∧Below w.heap.size w w':=by
 have a:=Any.stringslite_Clone Tryz.lays316 s w (by omega);change Calls prog 196 _ _ (fun e w'=>e=Y (V s)∧Below w.heap.size w w') at a;go_enter func135,ntmps135;go_wp2_with (go_at_call 196;refine a.mono ?_;rintro e w' ⟨rfl,b⟩)
 go_ret;exact⟨rfl,b⟩
theorem oS (s:ae)(w:World)(a:s.size<=1000000):
 Calls prog 135 #[V s] w fun e w'=>e=Y (V s)∧Below w.heap.size w w':=LX s w (by omega)
theorem ty (s:ae)(w:World)(g:s.size<=200000):
 Calls prog 281 #[V s] w fun e w'=>e=Y (V ⟨(Lib.trimS s.data.toList cf).toArray⟩)∧Below w.heap.size w w':=by
 have a:=Any.strings_Trim_laid Tryz.lays160 (by kernel_rfl) s ⟨#[32,9]⟩ w (by omega) (by decide) (ascii_of_all (by decide));change Calls prog 315 _ _ (fun e w'=>e=Y (V ⟨(Lib.trimS s.data.toList cf).toArray⟩)∧Below w.heap.size w w') at a;have c:(⟨(Lib.trimS s.data.toList cf).toArray⟩:ae).size<=200000:=by
  have d:=yB s.data.toList;rw[cH] at d;show(Lib.trimS s.data.toList cf).toArray.size<=200000;rw[cz];omega
 generalize (⟨(Lib.trimS s.data.toList cf).toArray⟩:ae)=r at a c ⊢;go_enter func281,ntmps281;go_wp2_with (go_at_call 315;refine a.mono ?_;rintro e i ⟨rfl,f⟩)
 go_wp2_with fail;refine(oS _ _ (by omega)).mono ?_;rintro e j ⟨rfl,b⟩;go_wp2;go_ret;exact⟨rfl,au f b⟩
theorem RS (s:ae)(w:World):
 Calls prog 317 #[V s] w fun e w'=>e=Y (.bool (iI s.data.toList))∧Below w.heap.size w w':=by
 have k:=cH s;by_cases c:s.data.toList=[]
 . have a:Hid (iI s.data.toList=F):=by unfold Hid iI;rw[c];rfl
   have l:(s.toList==[])=true:=by rw[cR,Lib.toList_data];exact c
   go_enter func317,ntmps317;go_wp2;go_ret;exact⟨by rw[a.o];rfl,ar _ _⟩
 . have l:(s.toList==[])=F:=by rw[aQ,Lib.toList_data];exact c
   have g:s.data.toList.isEmpty=F:=by rw[List.isEmpty_eq_false_iff];exact c
   by_cases b:s.size<=70
   . have i:decide ((s.size:Int)<=70)=true:=br (by omega);have d:=fun W=>rf s W (by unfold maxLen;omega);have m:=fun W=>ty s W (by omega);cases f:dO s.data.toList with
     | false =>
       rw[f] at d;have a:Hid (iI s.data.toList=F):=by unfold Hid iI;rw[f];simp
       go_enter func317,ntmps317;go_wp2_with (go_at_call 280;refine(d _).mono ?_;rintro e n ⟨rfl,j⟩;subst j)
       go_ret;exact⟨by rw[a.o];rfl,ar _ _⟩
     | true =>
       rw[f] at d;have p:iI s.data.toList=decide (Lib.trimS s.data.toList cf=s.data.toList):=by
        unfold iI;rw[g,f,k,br b];simp
       have r:((⟨(Lib.trimS s.data.toList cf).toArray⟩:ae).toList==s.toList)=decide (Lib.trimS s.data.toList cf=s.data.toList):=by
        rw[Lib.toList_data,Lib.toList_data,iM];simp
       generalize decide (Lib.trimS s.data.toList cf=s.data.toList)=t at *;generalize (⟨(Lib.trimS s.data.toList cf).toArray⟩:ae)=tr at *;go_enter func317,ntmps317;go_wp2_with (first
        | (go_at_call 280;refine(d _).mono ?_;rintro e n ⟨rfl,j⟩;subst j)
        | (go_at_call 281;refine(m _).mono ?_;rintro e u ⟨rfl,q⟩))
       go_ret;exact⟨by rw[p];rfl,q⟩
   . have i:decide ((s.size:Int)<=70)=F:=ba (by omega);have a:Hid (iI s.data.toList=F):=by unfold Hid iI;rw[k,ba b];simp
     go_enter func317,ntmps317;go_wp2;go_ret;exact⟨by rw[a.o];rfl,ar _ _⟩
theorem BT {l:ab}(h:iI l=true):l≠[]∧l.length<=70:=by grind [iI]
