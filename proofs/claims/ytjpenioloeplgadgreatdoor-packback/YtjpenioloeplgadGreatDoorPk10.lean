/- Small texts, one behind the other: BtInfo, FdInfo, SeekA, StPair. -/
import Derived.Test.YtjpenioloeplgadGreatDoorProg
import Derived.Test.YtjpenioloeplgadGreatDoorBase
import Derived.Test.YtjpenioloeplgadGreatDoorPlainS
import Derived.Laws.StructEq
/- The table's rows of bytes and ints. -/
namespace Go.Proofs.YtjpenioloeplgadGreatDoor
open Go.RowKit

theorem info_u8 : (Tryz.prog.info? 5).map (fun i => (i.zero, i.size, i.bytes)) = some (some (.int .u8 0), 1, 1) := by kernel_rfl

theorem info_int : (Tryz.prog.info? 3).map (fun i => (i.zero, i.size, i.bytes)) = some (some (.int .i64 0), 1, 8) := by kernel_rfl
end Go.Proofs.YtjpenioloeplgadGreatDoor

/- The table's row of fields. -/
namespace Go.Proofs.YtjpenioloeplgadGreatDoor
open Go.RowKit

theorem info_fld : (Tryz.prog.info? 58).map (fun i => (i.zero, i.size, i.bytes)) = some (some (.agg #[.string ⟨#[]⟩, .string ⟨#[]⟩]), 2, 32) := by kernel_rfl
end Go.Proofs.YtjpenioloeplgadGreatDoor

/- Package seek, its going back, walked. -/
namespace Go.Proofs.YtjpenioloeplgadGreatDoor
open Go.RowKit

/-- a mark without bytes -/
theorem fit_none (g : Nat) (mo : Option Addr) (cap : Nat) (c : UInt8) (w : World) (h0 : w.cell? ⟨g, 0, none⟩ = some (.slice mo 0 cap)) :
    Calls Tryz.prog 67 #[.pointer (some ⟨g, 0, none⟩), .int .i64 0, .int .u8 c.toNat] w fun e w' => e = .returned (.int .i64 0) ∧ w' = w := by
  go_enter Tryz.func67, Tryz.ntmps67
  go_wp2
  go_loop [1] (fun t => t = .int .i64 0) (fun _ => 0)
  case atStart => rfl
  case round =>
    subst hrel
    go_wp2
    go_ret
    exact ⟨rfl, rfl⟩

set_option maxHeartbeats 800000 in
theorem fit_any (m : List UInt8) (n : Nat) (c : UInt8) (g gm gb cap : Nat) (w : World) (hn : n < m.length) (hL : m.length ≤ 140737488355328)
    (h0 : w.cell? ⟨g, 0, none⟩ = some (.slice (some ⟨gm, 0, none⟩) m.length cap))
    (h1 : w.cell? ⟨g, 1, none⟩ = some (.slice (some ⟨gb, 0, none⟩) m.length m.length))
    (hm : ∀ j (hj : j < m.length), w.cell? ⟨gm, j, none⟩ = some (.int .u8 (m[j].toNat : Int)))
    (hb : ∀ j, 0 < j → j ≤ n → w.cell? ⟨gb, j, none⟩ = some (.int .i64 (Sk.bk m j))) :
    Calls Tryz.prog 67 #[.pointer (some ⟨g, 0, none⟩), .int .i64 n, .int .u8 c.toNat] w fun e w' => e = .returned (.int .i64 (Sk.fit m n c)) ∧ w' = w := by
  have HM := Hid.mk' hm
  have HB := Hid.mk' hb
  clear hm hb
  go_enter Tryz.func67, Tryz.ntmps67
  go_wp2
  go_loop [1] (fun t => ∃ k : Nat, Sk.Back m n c k ∧ t = .int .i64 k) (fun t => (intOf t).toNat)
  case atStart => exact ⟨n, Sk.back_start m n c, rfl⟩
  case round =>
    obtain ⟨k, hbk, rfl⟩ := hrel
    have hkn := hbk.1
    have hkl : k < m.length := by omega
    have hcm := HM.out k hkl
    have HK := Hid.mk' hbk
    clear hbk
    by_cases hc : m[k] = c
    · have hc1 := byte_eq hc
      have hc2 : ((m[k].toNat : Int) == c.toNat) = true := by rw [hc]; simp
      have HF : Hid (Sk.fit m n c = k + 1) := (Sk.back_yes HK.out hn hkl hc).best
      clear hc
      by_cases hk0 : 0 < k
      · go_wp2
        go_ret
        exact ⟨ret_int (by rw [HF.out]; omega), rfl⟩
      · obtain rfl : k = 0 := by omega
        go_wp2
        go_ret
        exact ⟨ret_int (by rw [HF.out]; omega), rfl⟩
    · have hc1 := byte_ne hc
      have hc2 := byte_ne' hc
      by_cases hk0 : 0 < k
      · have hcb := HB.out k hk0 hkn
        have HS := Hid.mk' (Sk.back_step HK.out hkl hk0 hc)
        have hlt := Sk.bk_lt m k hk0
        clear hc
        go_wp2
        go_round
        case rel => exact ⟨Sk.bk m k, HS.out, rfl⟩
        case measure => simp [intOf]; omega
      · obtain rfl : k = 0 := by omega
        have HF : Hid (Sk.fit m n c = 0) := (Sk.back_no HK.out hn hkl hc).best
        clear hc
        go_wp2
        go_ret
        exact ⟨ret_int (by rw [HF.out]; rfl), rfl⟩
end Go.Proofs.YtjpenioloeplgadGreatDoor

/- Two structs of two texts each, compared. -/
namespace Go.Proofs.YtjpenioloeplgadGreatDoor
open Go.RowKit

theorem guard_param : Tryz.prog.eqGuardType Tryz.prog.depth 97 = false := by kernel_rfl
theorem held_param : Tryz.prog.stoodInHeld 97 = false := by kernel_rfl
theorem neq_param (a b c d : ByteArray) (w : World) : (binOp .neq 97 (.agg #[.string a, .string b]) (.agg #[.string c, .string d])).run Tryz.prog w = .ok (.bool (!((a.toList == c.toList) && (b.toList == d.toList)))) w := by
  rw [run_neq_struct, run_equalIn_agg w _ _ _ _ (by simp [Program.fieldsOf, Tryz.underlying97]) held_param]
  simp [Program.fieldsOf, Tryz.underlying97, Op.eqFields, go_sem]
  by_cases h1 : a.toList = c.toList <;> by_cases h2 : b.toList = d.toList <;> simp [h1, h2]
theorem eql_param (a b c d : ByteArray) (w : World) : (binOp .eql 97 (.agg #[.string a, .string b]) (.agg #[.string c, .string d])).run Tryz.prog w = .ok (.bool ((a.toList == c.toList) && (b.toList == d.toList))) w := by
  rw [run_eql_struct, run_equalIn_agg w _ _ _ _ (by simp [Program.fieldsOf, Tryz.underlying97]) held_param]
  simp [Program.fieldsOf, Tryz.underlying97, Op.eqFields, go_sem]
  by_cases h1 : a.toList = c.toList <;> by_cases h2 : b.toList = d.toList <;> simp [h1, h2]
end Go.Proofs.YtjpenioloeplgadGreatDoor
