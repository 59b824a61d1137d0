import Derived.Test.YtmbghcpcbdjfoaaGreatDoorPk7
import Derived.Test.YtmbghcpcbdjfoaaGreatDoorShelf
import Derived.Test.YtmbghcpcbdjfoaaGreatDoorPk13
open Go.Value renaming string->V
open Go.Ending renaming returned->Y
open Bool renaming false->F
set_option maxHeartbeats 2000000
set_option maxRecDepth 100000
open Go.Proofs.Tryz
namespace Go.Proofs.YtmbghcpcbdjfoaaGreatDoor
open Go.RowKit
theorem Ms (s:ag)(w:World)(c:s.size<=281474976710656):
 Calls prog 111 #[V s] w fun e w'=>e=Y (V s)∧Below w.heap.size w w':=by
 have a:=Any.stringslite_Clone Tryz.lays316 s w (by omega);change Calls prog 164 _ _ (fun e w'=>e=Y (V s)∧Below w.heap.size w w') at a;go_enter func111,ntmps111;go_wp2_with (go_at_call 164;refine a.mono ?_;rintro e w' ⟨rfl,b⟩)
 go_ret;exact⟨rfl,b⟩
theorem pr (s:ag)(w:World)(a:s.size<=1000000):
 Calls prog 111 #[V s] w fun e w'=>e=Y (V s)∧Below w.heap.size w w':=Ms s w (by omega)
theorem um (s:ag)(w:World)(g:s.size<=200000):
 Calls prog 237 #[V s] w fun e w'=>e=Y (V ⟨(Lib.trimS s.data.toList aX).toArray⟩)∧Below w.heap.size w w':=by
 have a:=Any.strings_Trim_laid Tryz.lays160 (by kernel_rfl) s ⟨#[32,9]⟩ w (by omega) (by decide) (ascii_of_all (by decide));change Calls prog 271 _ _ (fun e w'=>e=Y (V ⟨(Lib.trimS s.data.toList aX).toArray⟩)∧Below w.heap.size w w') at a;have c:(⟨(Lib.trimS s.data.toList aX).toArray⟩:ag).size<=200000:=by
  have d:=xb s.data.toList;rw[ep] at d;show(Lib.trimS s.data.toList aX).toArray.size<=200000;rw[cN];omega
 generalize (⟨(Lib.trimS s.data.toList aX).toArray⟩:ag)=r at a c ⊢;go_enter func237,ntmps237;go_wp2_with (go_at_call 271;refine a.mono ?_;rintro e i ⟨rfl,f⟩)
 go_wp2_with fail;refine(pr _ _ (by omega)).mono ?_;rintro e j ⟨rfl,b⟩;go_wp2;go_ret;exact⟨rfl,ar f b⟩
theorem Tk (s:ag)(w:World):
 Calls prog 273 #[V s] w fun e w'=>e=Y (.bool (iR s.data.toList))∧Below w.heap.size w w':=by
 have k:=ep s;by_cases c:s.data.toList=[]
 . have a:Hid (iR s.data.toList=F):=by unfold Hid iR;rw[c];rfl
   have l:(s.toList==[])=true:=by rw[cM,Lib.toList_data];exact c
   go_enter func273,ntmps273;go_wp2;go_ret;exact⟨by rw[a.o];rfl,aq _ _⟩
 . have l:(s.toList==[])=F:=by rw[aO,Lib.toList_data];exact c
   have g:s.data.toList.isEmpty=F:=by rw[List.isEmpty_eq_false_iff];exact c
   by_cases b:s.size<=70
   . have i:decide ((s.size:Int)<=70)=true:=aV (by omega);have d:=fun W=>rH s W (by unfold maxLen;omega);have m:=fun W=>um s W (by omega);cases f:cF s.data.toList with
     | false =>
       rw[f] at d;have a:Hid (iR s.data.toList=F):=by unfold Hid iR;rw[f];simp
       go_enter func273,ntmps273;go_wp2_with (go_at_call 236;refine(d _).mono ?_;rintro e n ⟨rfl,j⟩;subst j)
       go_ret;exact⟨by rw[a.o];rfl,aq _ _⟩
     | true =>
       rw[f] at d;have p:iR s.data.toList=decide (Lib.trimS s.data.toList aX=s.data.toList):=by
        unfold iR;rw[g,f,k,aV b];simp
       have r:((⟨(Lib.trimS s.data.toList aX).toArray⟩:ag).toList==s.toList)=decide (Lib.trimS s.data.toList aX=s.data.toList):=by
        rw[Lib.toList_data,Lib.toList_data,ik];simp
       generalize decide (Lib.trimS s.data.toList aX=s.data.toList)=t at *;generalize (⟨(Lib.trimS s.data.toList aX).toArray⟩:ag)=tr at *;go_enter func273,ntmps273;go_wp2_with (first
        | (go_at_call 236;refine(d _).mono ?_;rintro e n ⟨rfl,j⟩;subst j)
        | (go_at_call 237;refine(m _).mono ?_;rintro e u ⟨rfl,q⟩))
       go_ret;exact⟨by rw[p];rfl,q⟩
   . have i:decide ((s.size:Int)<=70)=F:=aW (by omega);have a:Hid (iR s.data.toList=F):=by unfold Hid iR;rw[k,aW b];simp
     go_enter func273,ntmps273;go_wp2;go_ret;exact⟨by rw[a.o];rfl,aq _ _⟩
theorem CP {l:ae}(h:iR l=true):l≠[]∧l.length<=70:=by grind [iR]
