/- Small texts, one behind the other: BtInfo, FdInfo, StPair, FbTz. -/
import Derived.Test.YtdclmpdjjkjfjaaGreatDoorProg
import Derived.Test.YtdclmpdjjkjfjaaGreatDoorBase
import Derived.Laws.StructEq
/- The table's rows of bytes and ints. -/
namespace Go.Proofs.YtdclmpdjjkjfjaaGreatDoor
open Go.RowKit

theorem info_u8 : (Tryz.prog.info? 5).map (fun i => (i.zero, i.size, i.bytes)) = some (some (.int .u8 0), 1, 1) := by kernel_rfl

theorem info_int : (Tryz.prog.info? 3).map (fun i => (i.zero, i.size, i.bytes)) = some (some (.int .i64 0), 1, 8) := by kernel_rfl
end Go.Proofs.YtdclmpdjjkjfjaaGreatDoor

/- The table's row of fields. -/
namespace Go.Proofs.YtdclmpdjjkjfjaaGreatDoor
open Go.RowKit

theorem info_fld : (Tryz.prog.info? 58).map (fun i => (i.zero, i.size, i.bytes)) = some (some (.agg #[.string ⟨#[]⟩, .string ⟨#[]⟩]), 2, 32) := by kernel_rfl
end Go.Proofs.YtdclmpdjjkjfjaaGreatDoor

/- Two structs of two texts each, compared. -/
namespace Go.Proofs.YtdclmpdjjkjfjaaGreatDoor
open Go.RowKit

theorem guard_param : Tryz.prog.eqGuardType Tryz.prog.depth 133 = false := by kernel_rfl
theorem held_param : Tryz.prog.stoodInHeld 133 = false := by kernel_rfl
theorem neq_param (a b c d : ByteArray) (w : World) : (binOp .neq 133 (.agg #[.string a, .string b]) (.agg #[.string c, .string d])).run Tryz.prog w = .ok (.bool (!((a.toList == c.toList) && (b.toList == d.toList)))) w := by
  rw [run_neq_struct, run_equalIn_agg w _ _ _ _ (by simp [Program.fieldsOf, Tryz.underlying133]) held_param]
  simp [Program.fieldsOf, Tryz.underlying133, Op.eqFields, go_sem]
  by_cases h1 : a.toList = c.toList <;> by_cases h2 : b.toList = d.toList <;> simp [h1, h2]
theorem eql_param (a b c d : ByteArray) (w : World) : (binOp .eql 133 (.agg #[.string a, .string b]) (.agg #[.string c, .string d])).run Tryz.prog w = .ok (.bool ((a.toList == c.toList) && (b.toList == d.toList))) w := by
  rw [run_eql_struct, run_equalIn_agg w _ _ _ _ (by simp [Program.fieldsOf, Tryz.underlying133]) held_param]
  simp [Program.fieldsOf, Tryz.underlying133, Op.eqFields, go_sem]
  by_cases h1 : a.toList = c.toList <;> by_cases h2 : b.toList = d.toList <;> simp [h1, h2]
end Go.Proofs.YtdclmpdjjkjfjaaGreatDoor

/- math/bits.TrailingZeros of 16, walked: the library's own table holds 4 at place 15. -/
namespace Go.Proofs.YtdclmpdjjkjfjaaGreatDoor
open Go.RowKit

/-- the library's table of trailing zeros, at the place that 16 leads to -/
def TzAt (w : World) : Prop := w.cell? ⟨2, 15, none⟩ = some (.int .u8 4)
theorem TzAt.stay {w w' : World} (h : TzAt w) (hb : Below w.heap.size w w') : TzAt w' := by
  unfold TzAt at h ⊢
  rw [hb.cell (World.block_lt_of_cell? w _ h)]; exact h

theorem tz_key : IntKind.u64.wrap (bits BinOp.and IntKind.u64 16 (IntKind.u64.wrap (-16)) * 285870213051353865) / 288230376151711744 = 15 := by decide +kernel

theorem tz64_16 (w : World) (hT : TzAt w) :
    Calls Tryz.prog 194 #[.int .u64 16] w fun e w' => e = .returned (.int .i64 4) ∧ w' = w := by
  have h15 : w.cell? ⟨2, 15, none⟩ = some (.int .u8 4) := hT
  clear hT
  have key := tz_key
  go_enter Tryz.func194, Tryz.ntmps194
  go_wp2
  go_ret
  exact ⟨rfl, rfl⟩

theorem tz_16 (w : World) (hT : TzAt w) :
    Calls Tryz.prog 182 #[.int .u64 16] w fun e w' => e = .returned (.int .i64 4) ∧ w' = w := by
  have HT := Hid.mk' (tz64_16 w hT)
  clear hT
  go_enter Tryz.func182, Tryz.ntmps182
  go_wp2_with fail
  refine HT.out.mono ?_
  rintro e w1 ⟨rfl, hw⟩
  subst hw
  go_wp2
  go_ret
  exact ⟨rfl, rfl⟩

theorem pow2_16 (w : World) :
    Calls Tryz.prog 181 #[.int .i64 16] w fun e w' => e = .returned (.bool true) ∧ w' = w := by
  go_enter Tryz.func181, Tryz.ntmps181
  go_wp2
  go_ret
  exact ⟨rfl, rfl⟩
end Go.Proofs.YtdclmpdjjkjfjaaGreatDoor
