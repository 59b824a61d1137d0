/- The document's own answer, walked: SameBytes. -/
import Derived.Test.YtankilclhknbkaaDoorBase
import Derived.Test.YtankilclhknbkaaDoorPk2
import Derived.Test.YtankilclhknbkaaDoorProg
namespace Go.Proofs.YtankilclhknbkaaDoor
open Go.RowKit

theorem same_lists (a b : List UInt8) : ((⟨a.toArray⟩ : ByteArray).toList == (⟨b.toArray⟩ : ByteArray).toList) = decide (a = b) := by
  rw [Lib.toList_data, Lib.toList_data, Bool.eq_iff_iff]; simp

theorem sameBytes_any (w : World) (ao1 ao2 : Option Addr) (cap1 cap2 n1 n2 : Nat) (l1 l2 : List UInt8) (hn1 : l1.length = n1) (hn2 : l2.length = n2) (h1 : IsB w ao1 cap1 l1) (h2 : IsB w ao2 cap2 l2) :
    Calls Tryd.prog 44 #[.slice ao1 n1 cap1, .slice ao2 n2 cap2] w fun e w' => e = .returned (.bool (decide (l1 = l2))) ∧ w' = w := by
  subst hn1; subst hn2
  have q1 := h1.str (P := Tryd.prog) 37 9 5 Tryd.underlying37 Tryd.underlying5 Tryd.underlying9
  have q2 := h2.str (P := Tryd.prog) 37 9 5 Tryd.underlying37 Tryd.underlying5 Tryd.underlying9
  have HS := Hid.mk' (same_lists l1 l2)
  generalize (⟨l1.toArray⟩ : ByteArray) = s1 at q1 HS
  generalize (⟨l2.toArray⟩ : ByteArray) = s2 at q2 HS
  clear h1 h2
  go_enter Tryd.func44, Tryd.ntmps44
  go_wp2
  go_ret
  exact ⟨ret_bool HS.out, rfl⟩
end Go.Proofs.YtankilclhknbkaaDoor
