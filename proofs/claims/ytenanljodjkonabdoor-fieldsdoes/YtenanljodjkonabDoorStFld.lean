/- Two structs of two texts each, compared. -/
import Derived.Test.YtenanljodjkonabDoorBase
import Derived.Test.YtenanljodjkonabDoorProg
import Derived.Laws.StructEq
namespace Go.Proofs.YtenanljodjkonabDoor
open Go.RowKit

theorem guard_field : Tryd.prog.eqGuardType Tryd.prog.depth 23 = false := by kernel_rfl
theorem held_field : Tryd.prog.stoodInHeld 23 = false := by kernel_rfl
theorem neq_field (a b c d : ByteArray) (w : World) : (binOp .neq 23 (.agg #[.string a, .string b]) (.agg #[.string c, .string d])).run Tryd.prog w = .ok (.bool (!((a.toList == c.toList) && (b.toList == d.toList)))) w := by
  rw [run_neq_struct, run_equalIn_agg w _ _ _ _ (by simp [Program.fieldsOf, Tryd.underlying23]) held_field]
  simp [Program.fieldsOf, Tryd.underlying23, Op.eqFields, go_sem]
  by_cases h1 : a.toList = c.toList <;> by_cases h2 : b.toList = d.toList <;> simp [h1, h2]
theorem eql_field (a b c d : ByteArray) (w : World) : (binOp .eql 23 (.agg #[.string a, .string b]) (.agg #[.string c, .string d])).run Tryd.prog w = .ok (.bool ((a.toList == c.toList) && (b.toList == d.toList))) w := by
  rw [run_eql_struct, run_equalIn_agg w _ _ _ _ (by simp [Program.fieldsOf, Tryd.underlying23]) held_field]
  simp [Program.fieldsOf, Tryd.underlying23, Op.eqFields, go_sem]
  by_cases h1 : a.toList = c.toList <;> by_cases h2 : b.toList = d.toList <;> simp [h1, h2]
end Go.Proofs.YtenanljodjkonabDoor
