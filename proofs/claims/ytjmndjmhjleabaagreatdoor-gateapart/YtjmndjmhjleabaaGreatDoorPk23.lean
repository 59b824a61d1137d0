/- Small texts, one behind the other: StClone, CsTrim, FmMk. -/
import Derived.Test.YtjmndjmhjleabaaGreatDoorAl
import Derived.Test.YtjmndjmhjleabaaGreatDoorAm
import Derived.Test.YtjmndjmhjleabaaGreatDoorBase
import Derived.Test.YtjmndjmhjleabaaGreatDoorShelf
import Derived.Test.YtjmndjmhjleabaaGreatDoorPk4
import Derived.Test.YtjmndjmhjleabaaGreatDoorPk16
import Derived.Test.YtjmndjmhjleabaaGreatDoorPk5
set_option maxHeartbeats 2000000
set_option maxRecDepth 100000
open Go.Proofs.Tryz
namespace Go.Proofs.YtjmndjmhjleabaaGreatDoor
open Go.RowKit
theorem Ji (s:ay)(w:World)(hs:s.size<=281474976710656):
 Calls prog 113 #[.string s] w fun e w'=>e=.returned (.string s)∧aj w w':=by
 have hcon:=Any.stringslite_Clone Tryz.lays316 s w (by omega);change Calls prog 156 _ _ (fun e w'=>e=.returned (.string s)∧aj w w') at hcon;go_enter func113,ntmps113;go_wp2_with (go_at_call 156;refine hcon.mono ?_;rintro e w' ⟨rfl,hB⟩)
 go_ret;exact⟨rfl,hB⟩
theorem lM (s:ay)(w:World)(hs:s.size<=1000000):
 Calls prog 113 #[.string s] w fun e w'=>e=.returned (.string s)∧aj w w':=Ji s w (by omega)
theorem tY (s:ay)(w:World)(hs:s.size<=200000):
 Calls prog 193 #[.string s] w fun e w'=>e=.returned (.string ⟨(Lib.trimS s.data.toList Ch.ws).toArray⟩)∧aj w w':=by
 have hcon:=Any.strings_Trim_laid Tryz.lays160 (by kernel_rfl) s ⟨#[32,9]⟩ w (by omega) (by decide) (ascii_of_all (by decide));change Calls prog 228 _ _ (fun e w'=>e=.returned (.string ⟨(Lib.trimS s.data.toList Ch.ws).toArray⟩)∧aj w w') at hcon;have hr:(⟨(Lib.trimS s.data.toList Ch.ws).toArray⟩:ay).size<=200000:=by
  have h1:=vX s.data.toList;rw[Ch.iD] at h1;show(Lib.trimS s.data.toList Ch.ws).toArray.size<=200000;rw[bM];omega
 generalize (⟨(Lib.trimS s.data.toList Ch.ws).toArray⟩:ay)=r at hcon hr ⊢;go_enter func193,ntmps193;go_wp2_with (go_at_call 228;refine hcon.mono ?_;rintro e w1 ⟨rfl,hB⟩)
 go_wp2_with fail
 refine(lM _ _ (by omega)).mono ?_;rintro e w2 ⟨rfl,hB2⟩;go_wp2;go_ret;exact⟨rfl,then_ hB hB2⟩
theorem Xu (s:ay)(w:World):
 Calls prog 230 #[.string s] w fun e w'=>e=.returned (.bool (Fm.lK s.data.toList))∧aj w w':=by
 have hl:=Ch.iD s;by_cases h0:s.data.toList=[]
 . have HR:Hid (Fm.lK s.data.toList=false):=by unfold Hid Fm.lK;rw[h0];rfl
   have t0:(s.toList==[])=true:=by rw[aT,Lib.toList_data];exact h0
   clear h0;go_enter func230,ntmps230;go_wp2;go_ret;exact⟨by rw[HR.o];rfl,fJ _ _⟩
 . have t0:(s.toList==[])=false:=by rw[aS,Lib.toList_data];exact h0
   have hne:s.data.toList.isEmpty=false:=by rw[List.isEmpty_eq_false_iff];exact h0
   by_cases h70:s.size<=70
   . have t70:decide ((s.size:Int)<=70)=true:=aI (by omega);have HV:=H9 (fun W=>kU s W (by unfold maxLen;omega));have HT:=H9 (fun W=>tY s W (by omega));cases hv:Ch.iy s.data.toList with
     | false =>
       rw[hv] at HV;have HR:Hid (Fm.lK s.data.toList=false):=by unfold Hid Fm.lK;rw[hv];simp
       clear h0 h70 hne hv;go_enter func230,ntmps230;go_wp2_with (go_at_call 192;refine(HV.o _).mono ?_;rintro e w1 ⟨rfl,hw⟩;subst hw)
       go_ret;exact⟨by rw[HR.o];rfl,fJ _ _⟩
     | true =>
       rw[hv] at HV;have hM:Fm.lK s.data.toList=decide (Lib.trimS s.data.toList Ch.ws=s.data.toList):=by
        unfold Fm.lK;rw[hne,hv,hl,aI h70];simp
       have tt:((⟨(Lib.trimS s.data.toList Ch.ws).toArray⟩:ay).toList==s.toList)=decide (Lib.trimS s.data.toList Ch.ws=s.data.toList):=by
        rw[Lib.toList_data,Lib.toList_data,aH];simp
       have HM:=H9 hM;generalize decide (Lib.trimS s.data.toList Ch.ws=s.data.toList)=dd at *;generalize (⟨(Lib.trimS s.data.toList Ch.ws).toArray⟩:ay)=tr at *;clear h0 h70 hne hv hM;go_enter func230,ntmps230;go_wp2_with (first
        | (go_at_call 192;refine(HV.o _).mono ?_;rintro e w1 ⟨rfl,hw⟩;subst hw)
        | (go_at_call 193;refine(HT.o _).mono ?_;rintro e w2 ⟨rfl,hb⟩))
       go_ret;exact⟨by rw[HM.o];rfl,hb⟩
   . have t70:decide ((s.size:Int)<=70)=false:=aJ (by omega);have HR:Hid (Fm.lK s.data.toList=false):=by unfold Hid Fm.lK;rw[hl,aJ h70];simp
     clear h0 h70 hne;go_enter func230,ntmps230;go_wp2;go_ret;exact⟨by rw[HR.o];rfl,fJ _ _⟩
theorem Ag {l:av}(h:Fm.lK l=true):l≠[]∧l.length<=70:=by
 unfold Fm.lK at h;rw[dh,dh,dh] at h;refine⟨?_,dn h.1.1.2⟩;intro e;rw[e] at h;exact absurd h.1.1.1 (by decide)
end Go.Proofs.YtjmndjmhjleabaaGreatDoor