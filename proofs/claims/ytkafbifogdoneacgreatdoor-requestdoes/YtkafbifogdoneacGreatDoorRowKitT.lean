/- The tables of the library that rows of this program list: what a row gives of them, and a world that holds them. -/
import Derived.Test.YtkafbifogdoneacGreatDoorRows
import Derived.Test.YtkafbifogdoneacGreatDoorPk9
import Derived.ProofKit
import Derived.OpenShut
import Derived.Lib.LaidTab
import Derived.Stop.LaidErr
namespace Go.Proofs.YtkafbifogdoneacGreatDoor
open Go.ChangeShapes Go.WideShapes Go.ChangeAt Go.RowKit

/-- the numbers of a table of integers -/
def tabZ : DataW Unit → List Int
  | .agg l => l.map fun | .lit (.int _ z) => z | _ => 0
  | _ => []
theorem gTz : Tryz.prog.globalNamed "math/bits.deBruijn64tab" = some 5 := by kernel_rfl
theorem gTzType : (Tryz.prog.globals[5]?).map (·.type) = some 239 := by kernel_rfl
theorem cellsTz : Tryz.prog.cellsOf 239 = 64 := by kernel_rfl
theorem cellsTz1 : Tryz.prog.cellsOf 5 = 1 := by kernel_rfl
/-- the table of trailing zeros, out of the row's list -/
theorem tz_of_laid {W : World} {rest : List (String × DataW Unit)} {x : String × DataW Unit} (h : laidMet Tryz.prog (x :: ("math/bits.deBruijn64tab", Rows.laid_math_bits_deBruijn64tab) :: rest) W) : TzAt W := by
  have h1 : laidMet Tryz.prog (("math/bits.deBruijn64tab", Lib.tabData .u8 (tabZ Rows.laid_math_bits_deBruijn64tab)) :: rest) W := h.tail
  have h2 := Lib.tabIs_of_head (rest := rest) gTz gTzType Tryz.underlying239 Tryz.underlying5 cellsTz1 cellsTz h1
  have h3 := h2.cell gTz 15 (by decide)
  exact h3.trans (by rfl)
/-- the tables, laid in a world's variables -/
def laidHeap (h : Array Obj) : Array Obj :=
  ((((h.modify 1 (fun o => match o with | .cells _ t frozen => .cells ((tabZ Rows.laid_internal_strconv_uint64pow10).map fun z => Value.int .u64 z).toArray t frozen | o => o)).modify 2 (fun o => match o with | .cells _ t frozen => .cells (Pinned.utf8FirstZ.map fun n : Nat => Value.int .u8 (n : Int)).toArray t frozen | o => o)).modify 3 (fun o => match o with | .cells _ t frozen => .cells (([128, 191, 160, 191, 128, 159, 144, 191, 128, 143] ++ List.replicate 22 0).map fun n : Nat => Value.int .u8 (n : Int)).toArray t frozen | o => o)).modify 4 (fun o => match o with | .cells _ t frozen => .cells ((tabZ Rows.laid_math_bits_deBruijn32tab).map fun z => Value.int .u8 z).toArray t frozen | o => o)).modify 5 (fun o => match o with | .cells _ t frozen => .cells ((tabZ Rows.laid_math_bits_deBruijn64tab).map fun z => Value.int .u8 z).toArray t frozen | o => o)
end Go.Proofs.YtkafbifogdoneacGreatDoor
