/- Small texts, one behind the other: StClone, CsTrim, FmMk. -/
import Derived.Test.YtjmndjmhjleabaaGreatDoorShelf
import Derived.Test.YtjmndjmhjleabaaGreatDoorPk16
import Derived.Test.YtjmndjmhjleabaaGreatDoorPk5
open Go.Value renaming string->V
open Go.Ending renaming returned->Y
open Bool renaming false->F
set_option maxHeartbeats 2000000
set_option maxRecDepth 100000
open Go.Proofs.Tryz
namespace Go.Proofs.YtjmndjmhjleabaaGreatDoor
open Go.RowKit
theorem Jh (s:av)(w:World)(c:s.size<=281474976710656):
 Calls prog 113 #[V s] w fun e w'=>e=Y (V s)∧Below w.heap.size w w':=by
 have a:=Any.stringslite_Clone Tryz.lays316 s w (by omega);change Calls prog 156 _ _ (fun e w'=>e=Y (V s)∧Below w.heap.size w w') at a;go_enter func113,ntmps113;go_wp2_with (go_at_call 156;refine a.mono ?_;rintro e w' ⟨rfl,b⟩)
 go_ret;exact⟨rfl,b⟩
theorem lK (s:av)(w:World)(a:s.size<=1000000):
 Calls prog 113 #[V s] w fun e w'=>e=Y (V s)∧Below w.heap.size w w':=Jh s w (by omega)
theorem tX (s:av)(w:World)(g:s.size<=200000):
 Calls prog 193 #[V s] w fun e w'=>e=Y (V ⟨(Lib.trimS s.data.toList Ch.ws).toArray⟩)∧Below w.heap.size w w':=by
 have a:=Any.strings_Trim_laid Tryz.lays160 (by kernel_rfl) s ⟨#[32,9]⟩ w (by omega) (by decide) (ascii_of_all (by decide));change Calls prog 228 _ _ (fun e w'=>e=Y (V ⟨(Lib.trimS s.data.toList Ch.ws).toArray⟩)∧Below w.heap.size w w') at a;have c:(⟨(Lib.trimS s.data.toList Ch.ws).toArray⟩:av).size<=200000:=by
  have d:=vW s.data.toList;rw[Ch.iC] at d;show(Lib.trimS s.data.toList Ch.ws).toArray.size<=200000;rw[bL];omega
 generalize (⟨(Lib.trimS s.data.toList Ch.ws).toArray⟩:av)=r at a c ⊢;go_enter func193,ntmps193;go_wp2_with (go_at_call 228;refine a.mono ?_;rintro e i ⟨rfl,f⟩)
 go_wp2_with fail
 refine(lK _ _ (by omega)).mono ?_;rintro e j ⟨rfl,b⟩;go_wp2;go_ret;exact⟨rfl,then_ f b⟩
theorem Xt (s:av)(w:World):
 Calls prog 230 #[V s] w fun e w'=>e=Y (.bool (Fm.lJ s.data.toList))∧Below w.heap.size w w':=by
 have k:=Ch.iC s;by_cases c:s.data.toList=[]
 . have f:Hid (Fm.lJ s.data.toList=F):=by unfold Hid Fm.lJ;rw[c];rfl
   have m:(s.toList==[])=true:=by rw[aS,Lib.toList_data];exact c
   clear c;go_enter func230,ntmps230;go_wp2;go_ret;exact⟨by rw[f.o];rfl,fI _ _⟩
 . have m:(s.toList==[])=F:=by rw[aR,Lib.toList_data];exact c
   have b:s.data.toList.isEmpty=F:=by rw[List.isEmpty_eq_false_iff];exact c
   by_cases a:s.size<=70
   . have i:decide ((s.size:Int)<=70)=true:=aH (by omega);have g:=H9 (fun W=>kT s W (by unfold maxLen;omega));have n:=H9 (fun W=>tX s W (by omega));cases d:Ch.iw s.data.toList with
     | false =>
       rw[d] at g;have f:Hid (Fm.lJ s.data.toList=F):=by unfold Hid Fm.lJ;rw[d];simp
       clear c a b d;go_enter func230,ntmps230;go_wp2_with (go_at_call 192;refine(g.o _).mono ?_;rintro e p ⟨rfl,j⟩;subst j)
       go_ret;exact⟨by rw[f.o];rfl,fI _ _⟩
     | true =>
       rw[d] at g;have l:Fm.lJ s.data.toList=decide (Lib.trimS s.data.toList Ch.ws=s.data.toList):=by
        unfold Fm.lJ;rw[b,d,k,aH a];simp
       have t:((⟨(Lib.trimS s.data.toList Ch.ws).toArray⟩:av).toList==s.toList)=decide (Lib.trimS s.data.toList Ch.ws=s.data.toList):=by
        rw[Lib.toList_data,Lib.toList_data,aG];simp
       have q:=H9 l;generalize decide (Lib.trimS s.data.toList Ch.ws=s.data.toList)=u at *;generalize (⟨(Lib.trimS s.data.toList Ch.ws).toArray⟩:av)=v at *;clear c a b d l;go_enter func230,ntmps230;go_wp2_with (first
        | (go_at_call 192;refine(g.o _).mono ?_;rintro e p ⟨rfl,j⟩;subst j)
        | (go_at_call 193;refine(n.o _).mono ?_;rintro e x ⟨rfl,r⟩))
       go_ret;exact⟨by rw[q.o];rfl,r⟩
   . have i:decide ((s.size:Int)<=70)=F:=aI (by omega);have f:Hid (Fm.lJ s.data.toList=F):=by unfold Hid Fm.lJ;rw[k,aI a];simp
     clear c a b;go_enter func230,ntmps230;go_wp2;go_ret;exact⟨by rw[f.o];rfl,fI _ _⟩
theorem Af {l:au}(h:Fm.lJ l=true):l≠[]∧l.length<=70:=by
 unfold Fm.lJ at h;rw[cZ,cZ,cZ] at h;refine⟨?_,dh h.1.1.2⟩;intro e;rw[e] at h;exact absurd h.1.1.1 (by decide)
end Go.Proofs.YtjmndjmhjleabaaGreatDoor