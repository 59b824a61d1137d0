/- Small texts, one behind the other: RfHS, RfHT. -/
import Derived.Test.YtanpocgojmflgaaDoorPk8
import Derived.Test.YtanpocgojmflgaaDoorPk11
import Derived.Test.YtanpocgojmflgaaDoorBase
import Derived.Deep.QuietTactic
import Derived.BigQuiet
/- The document's own answer, walked where both are the same: SameUploads. -/
namespace Go.Proofs.YtanpocgojmflgaaDoor
open Go.RowKit

theorem IsUps.cap_ {w : World} {ao : Option Addr} {cap : Nat} {l : List Sp.Up} (h : IsUps w ao cap l) : l.length ≤ cap := by
  obtain ⟨us, _, hv, _⟩ := h
  exact hv.1
set_option maxRecDepth 100000 in
set_option maxHeartbeats 4000000 in
theorem sameUps_yes (l : List Sp.Up) (a1 a2 : Option Addr) (c1 c2 : Nat) (w : World) (h1 : IsUps w a1 c1 l) (h2 : IsUps w a2 c2 l) (hN : l.length ≤ 1000000) :
    Calls Tryd.prog 11 #[.slice a1 l.length c1, .slice a2 l.length c2] w fun e w' => e = .returned (.bool true) ∧ ∃ q, w' = w.drewN q := by
  have H1 := Hid.mk' h1; have H2 := Hid.mk' h2
  have hc1 := h1.cap_; have hc2 := h2.cap_
  clear h1 h2
  go_enter Tryd.func11, Tryd.ntmps11
  go_wp2
  go_loopw [5] (fun t wr => ∃ k q : Nat, k ≤ l.length ∧ t = .int .i64 k ∧ wr = w.drewN q) (fun t _ => l.length - (intOf t).toNat)
  case atStart => exact ⟨0, 0, Nat.zero_le _, rfl, rfl⟩
  case round =>
    obtain ⟨k, q, hk, rfl, rfl⟩ := hrel
    by_cases hlt : k < l.length
    · have e1 : (k : Int) < l.length := by omega
      obtain ⟨b1, o1, s1, rfl, x0, x1, x2, x3, x4, x5⟩ := H1.out.at_ k hlt
      obtain ⟨b2, o2, s2, rfl, y0, y1, y2, y3, y4, y5⟩ := H2.out.at_ k hlt
      have HSb : Hid (∀ n, Calls Tryd.prog 14 #[.slice s1.bo l[k].bytes.length s1.bcap, .slice s2.bo l[k].bytes.length s2.bcap] (w.drewN n) fun e w' => e = .returned (.bool true) ∧ w' = w.drewN n) := fun n => by
        have := sameBytes_any (w.drewN n) s1.bo s2.bo s1.bcap s2.bcap l[k].bytes.length l[k].bytes.length l[k].bytes l[k].bytes rfl rfl (x5.drewN n) (y5.drewN n)
        rw [decide_eq_true rfl] at this
        exact this
      have t1 : (l[k].note.toList == l[k].note.toList) = true := beq_self_eq_true _
      clear x5 y5
      generalize l[k] = p at *
      generalize p.bytes.length = pn at *
      go_wp2
      go_quiet ((go_at_call 14; exact (HSb.out _).mono (fun e w2 hw => ⟨hw.1, _, hw.2⟩)))
      go_wp2
      go_roundw
      case rel => exact ⟨k + 1, q + nq, by omega, by go_num, by simp⟩
      case measure => simp [intOf]; omega
    · obtain rfl : k = l.length := by omega
      go_wp2
      go_ret
      exact ⟨rfl, q, rfl⟩
end Go.Proofs.YtanpocgojmflgaaDoor

/- The document's own answer, walked, whatever both are: SameUploads. -/
namespace Go.Proofs.YtanpocgojmflgaaDoor
open Go.RowKit

/-- a bool is answered, and it is true where both are the same -/
inductive SameOut (l1 l2 : List Sp.Up) (w : World) (e : Ending) (w' : World) : Prop
  | mk (b : Bool) (q : Nat) (he : e = .returned (.bool b)) (hb : l1 = l2 → b = true) (hw : w' = w.drewN q)
theorem text_not {a b : ByteArray} (h : ¬ a = b) : (a.toList == b.toList) = false := by
  rw [Lib.toList_data, Lib.toList_data, beq_eq_false_iff_ne]
  intro e
  apply h
  cases a; cases b
  simp at e
  rw [e]
set_option maxRecDepth 100000 in
set_option maxHeartbeats 8000000 in
theorem sameUps_can (l1 l2 : List Sp.Up) (a1 a2 : Option Addr) (c1 c2 n1 n2 : Nat) (w : World) (h1 : IsUps w a1 c1 l1) (h2 : IsUps w a2 c2 l2) (hn1 : l1.length = n1) (hn2 : l2.length = n2) (hN : n1 ≤ 1000000) :
    Calls Tryd.prog 11 #[.slice a1 n1 c1, .slice a2 n2 c2] w (SameOut l1 l2 w) := by
  have H1 := Hid.mk' h1; have H2 := Hid.mk' h2
  have hc1 := h1.cap_; have hc2 := h2.cap_
  clear h1 h2
  by_cases hl : n1 = n2
  · subst hl
    rw [hn1] at hc1; rw [hn2] at hc2
    have HL1 := Hid.mk' hn1; have HL2 := Hid.mk' hn2
    clear hn1 hn2
    go_enter Tryd.func11, Tryd.ntmps11
    go_wp2
    go_loopw [5] (fun t wr => ∃ k q : Nat, k ≤ n1 ∧ t = .int .i64 k ∧ wr = w.drewN q) (fun t _ => n1 - (intOf t).toNat)
    case atStart => exact ⟨0, 0, Nat.zero_le _, rfl, rfl⟩
    case round =>
      obtain ⟨k, q, hk, rfl, rfl⟩ := hrel
      by_cases hlt : k < n1
      · have e1 : (k : Int) < n1 := by omega
        have g1 : k < l1.length := by rw [HL1.out]; exact hlt
        have g2 : k < l2.length := by rw [HL2.out]; exact hlt
        obtain ⟨b1, o1, s1, rfl, x0, x1, x2, x3, x4, x5⟩ := H1.out.at_ k g1
        obtain ⟨b2, o2, s2, rfl, y0, y1, y2, y3, y4, y5⟩ := H2.out.at_ k g2
        have HSb : Hid (∀ n, Calls Tryd.prog 14 #[.slice s1.bo l1[k].bytes.length s1.bcap, .slice s2.bo l2[k].bytes.length s2.bcap] (w.drewN n) fun e w' => e = .returned (.bool (decide (l1[k].bytes = l2[k].bytes))) ∧ w' = w.drewN n) := fun n => sameBytes_any (w.drewN n) s1.bo s2.bo s1.bcap s2.bcap _ _ l1[k].bytes l2[k].bytes rfl rfl (x5.drewN n) (y5.drewN n)
        have HNe : Hid (¬ l1[k] = l2[k] → ∀ W, ∀ qq, W = w.drewN qq → SameOut l1 l2 w (.returned (.bool false)) W) := fun hne W qq hW => .mk false qq rfl (fun e => absurd (by subst e; rfl) hne) hW
        clear x5 y5
        clear H1 H2 HL1 HL2
        generalize l1[k] = p at *
        generalize l2[k] = p' at *
        clear g1 g2
        obtain ⟨i1, z1, m1, bs1, t1⟩ := p
        obtain ⟨i2, z2, m2, bs2, t2⟩ := p'
        simp only at x0 x1 x2 x3 x4 y0 y1 y2 y3 y4 HSb HNe
        by_cases d0 : i1 = i2
        · subst d0
          by_cases d1 : z1 = z2
          · subst d1
            by_cases d2 : m1 = m2
            · subst d2
              have tm : (m1.toList == m1.toList) = true := beq_self_eq_true _
              by_cases d3 : t1 = t2
              · subst d3
                by_cases d4 : bs1 = bs2
                · subst d4
                  rw [decide_eq_true rfl] at HSb
                  generalize bs1.length = pn at *
                  clear HNe
                  go_wp2
                  go_quiet ((go_at_call 14; exact (HSb.out _).mono (fun e w2 hw => ⟨hw.1, _, hw.2⟩)))
                  go_wp2
                  go_roundw
                  case rel => exact ⟨k + 1, q + nq, by omega, by go_num, by simp⟩
                  case measure => simp [intOf]; omega
                · rw [decide_eq_false d4] at HSb
                  have HR := Hid.mk' (HNe.out (fun e => d4 (by injection e)))
                  clear d4 HNe
                  generalize bs1.length = pn at *
                  generalize bs2.length = pn' at *
                  go_wp2
                  go_quiet ((go_at_call 14; exact (HSb.out _).mono (fun e w2 hw => ⟨hw.1, _, hw.2⟩)))
                  go_wp2
                  go_ret
                  exact HR.out _ (q + nq) (by simp)
              · have HR := Hid.mk' (HNe.out (fun e => d3 (by injection e)))
                have tb : (t1 != t2) = true := by rw [bne_iff_ne]; exact d3
                clear HNe HSb d3
                go_wp2
                go_quiet (fail)
                go_wp2
                go_ret
                exact HR.out _ (q + nq) (by simp)
            · have HR := Hid.mk' (HNe.out (fun e => d2 (by injection e)))
              have tm := text_not d2
              have tm2 : (m1.toList != m2.toList) = true := by rw [bne, tm]; rfl
              clear HNe HSb d2
              go_wp2
              go_quiet (fail)
              go_wp2
              go_ret
              exact HR.out _ (q + nq) (by simp)
          · have HR := Hid.mk' (HNe.out (fun e => d1 (by injection e)))
            have tb : (z1 != z2) = true := by rw [bne_iff_ne]; exact d1
            clear HNe HSb d1
            go_wp2
            go_quiet (fail)
            go_wp2
            go_ret
            exact HR.out _ (q + nq) (by simp)
        · have HR := Hid.mk' (HNe.out (fun e => d0 (by injection e)))
          have tb : (i1 != i2) = true := by rw [bne_iff_ne]; exact d0
          clear HNe HSb d0
          go_wp2
          go_quiet (fail)
          go_wp2
          go_ret
          exact HR.out _ (q + nq) (by simp)
      · obtain rfl : k = n1 := by omega
        go_wp2
        go_ret
        exact .mk true q rfl (fun _ => rfl) rfl
  · have HR : Hid (SameOut l1 l2 w (.returned (.bool false)) w) := .mk false 0 rfl (fun e => absurd (by rw [← hn1, ← hn2, e]) hl) rfl
    have hl' : ¬ (n1 : Int) = n2 := by omega
    clear hn1 hn2 hl
    go_enter Tryd.func11, Tryd.ntmps11
    go_wp2
    go_ret
    exact HR.out
end Go.Proofs.YtanpocgojmflgaaDoor
