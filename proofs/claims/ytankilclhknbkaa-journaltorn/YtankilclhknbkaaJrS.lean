/- The statements' own helpers for a log, walked: entries held against entries that are the same; an entry as the document's own. -/
import Derived.Test.YtankilclhknbkaaMemJ
import Derived.Test.YtankilclhknbkaaRfSame
import Derived.Test.YtankilclhknbkaaJrF
import Derived.Deep.QuietTactic
import Derived.BigQuiet
namespace Go.Proofs.Ytankilclhknbkaa
open Go.RowKit

theorem IsEns.cap_ {w : World} {ao : Option Addr} {cap : Nat} {l : List Jn.E} (h : IsEns w ao cap l) : l.length ≤ cap := by
  obtain ⟨us, _, hv, _⟩ := h
  exact hv.1
set_option maxRecDepth 100000 in
set_option maxHeartbeats 4000000 in
theorem sameEns_yes (l : List Jn.E) (a1 a2 : Option Addr) (c1 c2 n : Nat) (w : World) (h1 : IsEns w a1 c1 l) (h2 : IsEns w a2 c2 l) (hn : l.length = n) (hN : n ≤ 1000000000) :
    Calls Try.prog 14 #[.slice a1 n c1, .slice a2 n c2] w fun e w' => e = .returned (.bool true) ∧ ∃ q, w' = w.drewN q := by
  have H1 := Hid.mk' h1; have H2 := Hid.mk' h2
  have hc1 := h1.cap_; have hc2 := h2.cap_
  clear h1 h2
  subst hn
  go_enter Try.func14, Try.ntmps14
  go_wp2
  go_loopw [5] (fun t wr => ∃ k q : Nat, k ≤ l.length ∧ t = .int .i64 k ∧ wr = w.drewN q) (fun t _ => l.length - (intOf t).toNat)
  case atStart => exact ⟨0, 0, Nat.zero_le _, rfl, rfl⟩
  case round =>
    obtain ⟨k, q, hk, rfl, rfl⟩ := hrel
    by_cases hlt : k < l.length
    · have e1 : (k : Int) < l.length := by omega
      obtain ⟨b1, o1, s1, rfl, x0, x1, x2, x3, x5⟩ := H1.out.at_ k hlt
      obtain ⟨b2, o2, s2, rfl, y0, y1, y2, y3, y5⟩ := H2.out.at_ k hlt
      have HSb : Hid (∀ n, Calls Try.prog 13 #[.slice s1.bo l[k].text.length s1.bcap, .slice s2.bo l[k].text.length s2.bcap] (w.drewN n) fun e w' => e = .returned (.bool true) ∧ w' = w.drewN n) := fun n => by
        have := sameBytes_any (w.drewN n) s1.bo s2.bo s1.bcap s2.bcap l[k].text.length l[k].text.length l[k].text l[k].text rfl rfl (x5.drewN n) (y5.drewN n)
        rw [decide_eq_true rfl] at this
        exact this
      clear x5 y5
      generalize l[k] = p at *
      generalize p.text.length = pn at *
      go_wp2
      go_quiet ((go_at_call 13; exact (HSb.out _).mono (fun e w2 hw => ⟨hw.1, _, hw.2⟩)))
      go_wp2
      go_roundw
      case rel => exact ⟨k + 1, q + nq, by omega, by go_num, by simp⟩
      case measure => simp [intOf]; omega
    · obtain rfl : k = l.length := by omega
      go_wp2
      go_ret
      exact ⟨rfl, q, rfl⟩
end Go.Proofs.Ytankilclhknbkaa
