/- Small texts, one behind the other: BtInfo, FdInfo, StFld, FbTz. -/
import Derived.Test.YtjhbiipbmlpgoaaDoorProg
import Derived.Test.YtjhbiipbmlpgoaaDoorBase
import Derived.Laws.StructEq
/- The table's rows of bytes and ints. -/
namespace Go.Proofs.YtjhbiipbmlpgoaaDoor
open Go.RowKit

theorem info_u8 : (Tryd.prog.info? 5).map (fun i => (i.zero, i.size, i.bytes)) = some (some (.int .u8 0), 1, 1) := by kernel_rfl

theorem info_int : (Tryd.prog.info? 3).map (fun i => (i.zero, i.size, i.bytes)) = some (some (.int .i64 0), 1, 8) := by kernel_rfl
end Go.Proofs.YtjhbiipbmlpgoaaDoor

/- The table's row of fields. -/
namespace Go.Proofs.YtjhbiipbmlpgoaaDoor
open Go.RowKit

theorem info_fld : (Tryd.prog.info? 36).map (fun i => (i.zero, i.size, i.bytes)) = some (some (.agg #[.string ⟨#[]⟩, .string ⟨#[]⟩]), 2, 32) := by kernel_rfl
end Go.Proofs.YtjhbiipbmlpgoaaDoor

/- Two structs of two texts each, compared. -/
namespace Go.Proofs.YtjhbiipbmlpgoaaDoor
open Go.RowKit

theorem guard_field : Tryd.prog.eqGuardType Tryd.prog.depth 36 = false := by kernel_rfl
theorem held_field : Tryd.prog.stoodInHeld 36 = false := by kernel_rfl
theorem neq_field (a b c d : ByteArray) (w : World) : (binOp .neq 36 (.agg #[.string a, .string b]) (.agg #[.string c, .string d])).run Tryd.prog w = .ok (.bool (!((a.toList == c.toList) && (b.toList == d.toList)))) w := by
  rw [run_neq_struct, run_equalIn_agg w _ _ _ _ (by simp [Program.fieldsOf, Tryd.underlying36]) held_field]
  simp [Program.fieldsOf, Tryd.underlying36, Op.eqFields, go_sem]
  by_cases h1 : a.toList = c.toList <;> by_cases h2 : b.toList = d.toList <;> simp [h1, h2]
theorem eql_field (a b c d : ByteArray) (w : World) : (binOp .eql 36 (.agg #[.string a, .string b]) (.agg #[.string c, .string d])).run Tryd.prog w = .ok (.bool ((a.toList == c.toList) && (b.toList == d.toList))) w := by
  rw [run_eql_struct, run_equalIn_agg w _ _ _ _ (by simp [Program.fieldsOf, Tryd.underlying36]) held_field]
  simp [Program.fieldsOf, Tryd.underlying36, Op.eqFields, go_sem]
  by_cases h1 : a.toList = c.toList <;> by_cases h2 : b.toList = d.toList <;> simp [h1, h2]
end Go.Proofs.YtjhbiipbmlpgoaaDoor

/- math/bits.TrailingZeros of 16, walked: the library's own table holds 4 at place 15. -/
namespace Go.Proofs.YtjhbiipbmlpgoaaDoor
open Go.RowKit

/-- the library's table of trailing zeros, at the place that 16 leads to -/
def TzAt (w : World) : Prop := w.cell? ⟨2, 15, none⟩ = some (.int .u8 4)
theorem TzAt.stay {w w' : World} (h : TzAt w) (hb : Below w.heap.size w w') : TzAt w' := by
  unfold TzAt at h ⊢
  rw [hb.cell (World.block_lt_of_cell? w _ h)]; exact h

theorem tz_key : IntKind.u64.wrap (bits BinOp.and IntKind.u64 16 (IntKind.u64.wrap (-16)) * 285870213051353865) / 288230376151711744 = 15 := by decide +kernel

theorem tz64_16 (w : World) (hT : TzAt w) :
    Calls Tryd.prog 69 #[.int .u64 16] w fun e w' => e = .returned (.int .i64 4) ∧ w' = w := by
  have h15 : w.cell? ⟨2, 15, none⟩ = some (.int .u8 4) := hT
  clear hT
  have key := tz_key
  go_enter Tryd.func69, Tryd.ntmps69
  go_wp2
  go_ret
  exact ⟨rfl, rfl⟩

theorem tz_16 (w : World) (hT : TzAt w) :
    Calls Tryd.prog 62 #[.int .u64 16] w fun e w' => e = .returned (.int .i64 4) ∧ w' = w := by
  have HT := Hid.mk' (tz64_16 w hT)
  clear hT
  go_enter Tryd.func62, Tryd.ntmps62
  go_wp2_with fail
  refine HT.out.mono ?_
  rintro e w1 ⟨rfl, hw⟩
  subst hw
  go_wp2
  go_ret
  exact ⟨rfl, rfl⟩

theorem pow2_16 (w : World) :
    Calls Tryd.prog 61 #[.int .i64 16] w fun e w' => e = .returned (.bool true) ∧ w' = w := by
  go_enter Tryd.func61, Tryd.ntmps61
  go_wp2
  go_ret
  exact ⟨rfl, rfl⟩
end Go.Proofs.YtjhbiipbmlpgoaaDoor
