/- Small texts, one behind the other: StClone, CsTrim, FmMk. -/
import Derived.Test.YtjmndjmhjleabaaGreatDoorBase
import Derived.Test.YtjmndjmhjleabaaGreatDoorShelf
import Derived.Test.YtjmndjmhjleabaaGreatDoorPk4
import Derived.Test.YtjmndjmhjleabaaGreatDoorPk18
import Derived.Test.YtjmndjmhjleabaaGreatDoorPk5
set_option maxHeartbeats 2000000
set_option maxRecDepth 100000
open Go.Proofs.Tryz
namespace Go.Proofs.YtjmndjmhjleabaaGreatDoor
open Go.RowKit
theorem BO (s:ByteArray)(w:World)(hs:s.size<=281474976710656):
 Calls prog 113 #[.string s] w fun e w'=>e=.returned (.string s)∧Below w.heap.size w w':=by
 have hcon:=Any.stringslite_Clone Tryz.lays316 s w (by omega);change Calls prog 156 _ _ (fun e w'=>e=.returned (.string s)∧Below w.heap.size w w') at hcon;go_enter func113,ntmps113;go_wp2_with (go_at_call 156;refine hcon.mono ?_;rintro e w' ⟨rfl,hB⟩)
 go_ret;exact⟨rfl,hB⟩
theorem fG (s:ByteArray)(w:World)(hs:s.size<=1000000):
 Calls prog 113 #[.string s] w fun e w'=>e=.returned (.string s)∧Below w.heap.size w w':=BO s w (by omega)
theorem l7 (s:ByteArray)(w:World)(hs:s.size<=200000):
 Calls prog 193 #[.string s] w fun e w'=>e=.returned (.string ⟨(Lib.trimS s.data.toList Ch.ws).toArray⟩)∧Below w.heap.size w w':=by
 have hcon:=Any.strings_Trim_laid Tryz.lays160 (by kernel_rfl) s ⟨#[32,9]⟩ w (by omega) (by decide) (ascii_of_all (by decide));change Calls prog 228 _ _ (fun e w'=>e=.returned (.string ⟨(Lib.trimS s.data.toList Ch.ws).toArray⟩)∧Below w.heap.size w w') at hcon;have hr:(⟨(Lib.trimS s.data.toList Ch.ws).toArray⟩:ByteArray).size<=200000:=by
  have h1:=rF s.data.toList;rw[Ch.bC] at h1;show(Lib.trimS s.data.toList Ch.ws).toArray.size<=200000;rw[List.size_toArray];omega
 generalize (⟨(Lib.trimS s.data.toList Ch.ws).toArray⟩:ByteArray)=r at hcon hr ⊢;go_enter func193,ntmps193;go_wp2_with (go_at_call 228;refine hcon.mono ?_;rintro e w1 ⟨rfl,hB⟩)
 go_wp2_with fail
 refine(fG _ _ (by omega)).mono ?_;rintro e w2 ⟨rfl,hB2⟩;go_wp2;go_ret;exact⟨rfl,then_ hB hB2⟩
theorem Qa (s:ByteArray)(w:World):
 Calls prog 230 #[.string s] w fun e w'=>e=.returned (.bool (Fm.fF s.data.toList))∧Below w.heap.size w w':=by
 have hl:=Ch.bC s;by_cases h0:s.data.toList=[]
 . have HR:Hid (Fm.fF s.data.toList=false):=by unfold Hid Fm.fF;rw[h0];rfl
   have t0:(s.toList==[])=true:=by rw[beq_iff_eq,Lib.toList_data];exact h0
   clear h0;go_enter func230,ntmps230;go_wp2;go_ret;exact⟨by rw[HR.o];rfl,Below.refl _ _⟩
 . have t0:(s.toList==[])=false:=by rw[beq_eq_false_iff_ne,Lib.toList_data];exact h0
   have hne:s.data.toList.isEmpty=false:=by rw[List.isEmpty_eq_false_iff];exact h0
   by_cases Ub:s.size<=70
   . have t70:decide ((s.size:Int)<=70)=true:=decide_eq_true (by omega);have HV:=H9 (fun W=>dW s W (by unfold maxLen;omega));have HT:=H9 (fun W=>l7 s W (by omega));cases hv:Ch.aP s.data.toList with
     | false =>
       rw[hv] at HV;have HR:Hid (Fm.fF s.data.toList=false):=by unfold Hid Fm.fF;rw[hv];simp
       clear h0 Ub hne hv;go_enter func230,ntmps230;go_wp2_with (go_at_call 192;refine(HV.o _).mono ?_;rintro e w1 ⟨rfl,hw⟩;subst hw)
       go_ret;exact⟨by rw[HR.o];rfl,Below.refl _ _⟩
     | true =>
       rw[hv] at HV;have hM:Fm.fF s.data.toList=decide (Lib.trimS s.data.toList Ch.ws=s.data.toList):=by
        unfold Fm.fF;rw[hne,hv,hl,decide_eq_true Ub];simp
       have tt:((⟨(Lib.trimS s.data.toList Ch.ws).toArray⟩:ByteArray).toList==s.toList)=decide (Lib.trimS s.data.toList Ch.ws=s.data.toList):=by
        rw[Lib.toList_data,Lib.toList_data,Bool.eq_iff_iff];simp
       have HM:=H9 hM;generalize decide (Lib.trimS s.data.toList Ch.ws=s.data.toList)=dd at *;generalize (⟨(Lib.trimS s.data.toList Ch.ws).toArray⟩:ByteArray)=tr at *;clear h0 Ub hne hv hM;go_enter func230,ntmps230;go_wp2_with (first
        | (go_at_call 192;refine(HV.o _).mono ?_;rintro e w1 ⟨rfl,hw⟩;subst hw)
        | (go_at_call 193;refine(HT.o _).mono ?_;rintro e w2 ⟨rfl,hb⟩))
       go_ret;exact⟨by rw[HM.o];rfl,hb⟩
   . have t70:decide ((s.size:Int)<=70)=false:=decide_eq_false (by omega);have HR:Hid (Fm.fF s.data.toList=false):=by unfold Hid Fm.fF;rw[hl,decide_eq_false Ub];simp
     clear h0 Ub hne;go_enter func230,ntmps230;go_wp2;go_ret;exact⟨by rw[HR.o];rfl,Below.refl _ _⟩
theorem sQ {l:List UInt8}(h:Fm.fF l=true):l≠[]∧l.length<=70:=by
 unfold Fm.fF at h;rw[Bool.and_eq_true,Bool.and_eq_true,Bool.and_eq_true] at h;refine⟨?_,of_decide_eq_true h.1.1.2⟩;intro e;rw[e] at h;exact absurd h.1.1.1 (by decide)
end Go.Proofs.YtjmndjmhjleabaaGreatDoor