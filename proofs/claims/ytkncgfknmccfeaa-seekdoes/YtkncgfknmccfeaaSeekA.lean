/- Package seek, its going back, walked. -/
import Derived.Test.YtkncgfknmccfeaaPlainS
import Derived.Test.YtkncgfknmccfeaaProg
import Derived.Test.YtkncgfknmccfeaaMem
namespace Go.Proofs.Ytkncgfknmccfeaa
open Go.RowKit

theorem ret_bool {a b : Bool} (h : a = b) : Ending.returned (.bool a) = .returned (.bool b) := by rw [h]
theorem ret_int {k : IntKind} {a b : Int} (h : a = b) : Ending.returned (.int k a) = .returned (.int k b) := by rw [h]
theorem Hid.mk' {p : Prop} (h : p) : Hid p := h
theorem wrap_id {x : Int} (h0 : -9223372036854775808 ≤ x) (h1 : x ≤ 9223372036854775807) : IntKind.i64.wrap x = x := by rw [IntKind.wrap_i64]; omega
theorem wrap64_id {x : Int} (h0 : -9223372036854775808 ≤ x) (h1 : x ≤ 9223372036854775807) : wrap64 x = x := by unfold wrap64; omega
theorem byte_ne {a b : UInt8} (h : a ≠ b) : ((a.toNat : Int) != b.toNat) = true := by
  rw [bne_iff_ne]; intro e; exact h (UInt8.toNat_inj.1 (by omega))
theorem byte_eq {a b : UInt8} (h : a = b) : ((a.toNat : Int) != b.toNat) = false := by subst h; simp
theorem byte_ne' {a b : UInt8} (h : a ≠ b) : ((a.toNat : Int) == b.toNat) = false := by
  rw [beq_eq_false_iff_ne]; intro e; exact h (UInt8.toNat_inj.1 (by omega))

/-- a mark without bytes -/
theorem fit_none (g : Nat) (mo : Option Addr) (cap : Nat) (c : UInt8) (w : World) (h0 : w.cell? ⟨g, 0, none⟩ = some (.slice mo 0 cap)) :
    Calls Try.prog 14 #[.pointer (some ⟨g, 0, none⟩), .int .i64 0, .int .u8 c.toNat] w fun e w' => e = .returned (.int .i64 0) ∧ w' = w := by
  go_enter Try.func14, Try.ntmps14
  go_wp2
  go_loop [1] (fun t => t = .int .i64 0) (fun _ => 0)
  case atStart => rfl
  case round =>
    subst hrel
    go_wp2
    go_ret
    exact ⟨rfl, rfl⟩

set_option maxHeartbeats 800000 in
theorem fit_any (m : List UInt8) (n : Nat) (c : UInt8) (g gm gb cap : Nat) (w : World) (hn : n < m.length) (hL : m.length ≤ 140737488355328)
    (h0 : w.cell? ⟨g, 0, none⟩ = some (.slice (some ⟨gm, 0, none⟩) m.length cap))
    (h1 : w.cell? ⟨g, 1, none⟩ = some (.slice (some ⟨gb, 0, none⟩) m.length m.length))
    (hm : ∀ j (hj : j < m.length), w.cell? ⟨gm, j, none⟩ = some (.int .u8 (m[j].toNat : Int)))
    (hb : ∀ j, 0 < j → j ≤ n → w.cell? ⟨gb, j, none⟩ = some (.int .i64 (Sk.bk m j))) :
    Calls Try.prog 14 #[.pointer (some ⟨g, 0, none⟩), .int .i64 n, .int .u8 c.toNat] w fun e w' => e = .returned (.int .i64 (Sk.fit m n c)) ∧ w' = w := by
  have HM := Hid.mk' hm
  have HB := Hid.mk' hb
  clear hm hb
  go_enter Try.func14, Try.ntmps14
  go_wp2
  go_loop [1] (fun t => ∃ k : Nat, Sk.Back m n c k ∧ t = .int .i64 k) (fun t => (intOf t).toNat)
  case atStart => exact ⟨n, Sk.back_start m n c, rfl⟩
  case round =>
    obtain ⟨k, hbk, rfl⟩ := hrel
    have hkn := hbk.1
    have hkl : k < m.length := by omega
    have hcm := HM.out k hkl
    have HK := Hid.mk' hbk
    clear hbk
    by_cases hc : m[k] = c
    · have hc1 := byte_eq hc
      have hc2 : ((m[k].toNat : Int) == c.toNat) = true := by rw [hc]; simp
      have HF : Hid (Sk.fit m n c = k + 1) := (Sk.back_yes HK.out hn hkl hc).best
      clear hc
      by_cases hk0 : 0 < k
      · go_wp2
        go_ret
        exact ⟨ret_int (by rw [HF.out]; omega), rfl⟩
      · obtain rfl : k = 0 := by omega
        go_wp2
        go_ret
        exact ⟨ret_int (by rw [HF.out]; omega), rfl⟩
    · have hc1 := byte_ne hc
      have hc2 := byte_ne' hc
      by_cases hk0 : 0 < k
      · have hcb := HB.out k hk0 hkn
        have HS := Hid.mk' (Sk.back_step HK.out hkl hk0 hc)
        have hlt := Sk.bk_lt m k hk0
        clear hc
        go_wp2
        go_round
        case rel => exact ⟨Sk.bk m k, HS.out, rfl⟩
        case measure => simp [intOf]; omega
      · obtain rfl : k = 0 := by omega
        have HF : Hid (Sk.fit m n c = 0) := (Sk.back_no HK.out hn hkl hc).best
        clear hc
        go_wp2
        go_ret
        exact ⟨ret_int (by rw [HF.out]; rfl), rfl⟩
end Go.Proofs.Ytkncgfknmccfeaa
