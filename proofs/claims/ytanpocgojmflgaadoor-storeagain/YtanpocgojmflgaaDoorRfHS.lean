/- The document's own answer, walked where both are the same: SameUploads. -/
import Derived.Test.YtanpocgojmflgaaDoorPk8
import Derived.Test.YtanpocgojmflgaaDoorPk11
import Derived.Test.YtanpocgojmflgaaDoorBase
import Derived.Deep.QuietTactic
import Derived.BigQuiet
namespace Go.Proofs.YtanpocgojmflgaaDoor
open Go.RowKit

theorem IsUps.cap_ {w : World} {ao : Option Addr} {cap : Nat} {l : List Sp.Up} (h : IsUps w ao cap l) : l.length ≤ cap := by
  obtain ⟨us, _, hv, _⟩ := h
  exact hv.1
set_option maxRecDepth 100000 in
set_option maxHeartbeats 4000000 in
theorem sameUps_yes (l : List Sp.Up) (a1 a2 : Option Addr) (c1 c2 : Nat) (w : World) (h1 : IsUps w a1 c1 l) (h2 : IsUps w a2 c2 l) (hN : l.length ≤ 1000000) :
    Calls Tryd.prog 11 #[.slice a1 l.length c1, .slice a2 l.length c2] w fun e w' => e = .returned (.bool true) ∧ ∃ q, w' = w.drewN q := by
  have H1 := Hid.mk' h1; have H2 := Hid.mk' h2
  have hc1 := h1.cap_; have hc2 := h2.cap_
  clear h1 h2
  go_enter Tryd.func11, Tryd.ntmps11
  go_wp2
  go_loopw [5] (fun t wr => ∃ k q : Nat, k ≤ l.length ∧ t = .int .i64 k ∧ wr = w.drewN q) (fun t _ => l.length - (intOf t).toNat)
  case atStart => exact ⟨0, 0, Nat.zero_le _, rfl, rfl⟩
  case round =>
    obtain ⟨k, q, hk, rfl, rfl⟩ := hrel
    by_cases hlt : k < l.length
    · have e1 : (k : Int) < l.length := by omega
      obtain ⟨b1, o1, s1, rfl, x0, x1, x2, x3, x4, x5⟩ := H1.out.at_ k hlt
      obtain ⟨b2, o2, s2, rfl, y0, y1, y2, y3, y4, y5⟩ := H2.out.at_ k hlt
      have HSb : Hid (∀ n, Calls Tryd.prog 14 #[.slice s1.bo l[k].bytes.length s1.bcap, .slice s2.bo l[k].bytes.length s2.bcap] (w.drewN n) fun e w' => e = .returned (.bool true) ∧ w' = w.drewN n) := fun n => by
        have := sameBytes_any (w.drewN n) s1.bo s2.bo s1.bcap s2.bcap l[k].bytes.length l[k].bytes.length l[k].bytes l[k].bytes rfl rfl (x5.drewN n) (y5.drewN n)
        rw [decide_eq_true rfl] at this
        exact this
      have t1 : (l[k].note.toList == l[k].note.toList) = true := beq_self_eq_true _
      clear x5 y5
      generalize l[k] = p at *
      generalize p.bytes.length = pn at *
      go_wp2
      go_quiet ((go_at_call 14; exact (HSb.out _).mono (fun e w2 hw => ⟨hw.1, _, hw.2⟩)))
      go_wp2
      go_roundw
      case rel => exact ⟨k + 1, q + nq, by omega, by go_num, by simp⟩
      case measure => simp [intOf]; omega
    · obtain rfl : k = l.length := by omega
      go_wp2
      go_ret
      exact ⟨rfl, q, rfl⟩
end Go.Proofs.YtanpocgojmflgaaDoor
