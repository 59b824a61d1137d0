/- Tables that a row lists, laid: of math/bits and of internal/strconv. -/
import Derived.Test.YtdclmpdjjkjfjaaGreatDoorRows
import Derived.Test.YtdclmpdjjkjfjaaGreatDoorPk12
import Derived.ProofKit
import Derived.OpenShut
import Derived.Lib.LaidTab
import Derived.Stop.LaidErr
import Derived.Test.YtdclmpdjjkjfjaaGreatDoorFbPow
namespace Go.Proofs.YtdclmpdjjkjfjaaGreatDoor
open Go.ChangeShapes Go.WideShapes Go.ChangeAt Go.RowKit

/-- the numbers of a table of integers -/
def tabZ : DataW Unit → List Int
  | .agg l => l.map fun | .lit (.int _ z) => z | _ => 0
  | _ => []
theorem gTz : Tryz.prog.globalNamed "math/bits.deBruijn64tab" = some 2 := by kernel_rfl
theorem gTzType : (Tryz.prog.globals[2]?).map (·.type) = some 198 := by kernel_rfl
theorem cellsTz : Tryz.prog.cellsOf 198 = 64 := by kernel_rfl
theorem cellsTz1 : Tryz.prog.cellsOf 5 = 1 := by kernel_rfl
/-- the table of trailing zeros, out of the row's list -/
theorem tz_of_laid {W : World} {rest : List (String × DataW Unit)} {x : String × DataW Unit} (h : laidMet Tryz.prog (x :: ("math/bits.deBruijn64tab", Rows.laid_math_bits_deBruijn64tab) :: rest) W) : TzAt W := by
  have h1 : laidMet Tryz.prog (("math/bits.deBruijn64tab", Lib.tabData .u8 (tabZ Rows.laid_math_bits_deBruijn64tab)) :: rest) W := h.tail
  have h2 := Lib.tabIs_of_head (rest := rest) gTz gTzType Tryz.underlying198 Tryz.underlying5 cellsTz1 cellsTz h1
  have h3 := h2.cell gTz 15 (by decide)
  exact h3.trans (by rfl)
/-- the tables, laid in a world's variables -/
def laidHeap (h : Array Obj) : Array Obj :=
  ((((h.modify 0 (fun o => match o with | .cells _ t frozen => .cells ((tabZ Rows.laid_internal_strconv_uint64pow10).map fun z => Value.int .u64 z).toArray t frozen | o => o)).modify 3 (fun o => match o with | .cells _ t frozen => .cells (Pinned.utf8FirstZ.map fun n : Nat => Value.int .u8 (n : Int)).toArray t frozen | o => o)).modify 4 (fun o => match o with | .cells _ t frozen => .cells (([128, 191, 160, 191, 128, 159, 144, 191, 128, 143] ++ List.replicate 22 0).map fun n : Nat => Value.int .u8 (n : Int)).toArray t frozen | o => o)).modify 1 (fun o => match o with | .cells _ t frozen => .cells ((tabZ Rows.laid_math_bits_deBruijn32tab).map fun z => Value.int .u8 z).toArray t frozen | o => o)).modify 2 (fun o => match o with | .cells _ t frozen => .cells ((tabZ Rows.laid_math_bits_deBruijn64tab).map fun z => Value.int .u8 z).toArray t frozen | o => o)
end Go.Proofs.YtdclmpdjjkjfjaaGreatDoor
namespace Go.Proofs.YtdclmpdjjkjfjaaGreatDoor
open Go.ChangeShapes Go.WideShapes Go.ChangeAt Go.RowKit

theorem gPw : Tryz.prog.globalNamed "internal/strconv.uint64pow10" = some 0 := by kernel_rfl
theorem gPwType : (Tryz.prog.globals[0]?).map (·.type) = some 182 := by kernel_rfl
theorem cellsPw : Tryz.prog.cellsOf 182 = 20 := by kernel_rfl
theorem cellsPw1 : Tryz.prog.cellsOf 163 = 1 := by kernel_rfl
theorem pow_tab : tabZ Rows.laid_internal_strconv_uint64pow10 = Lib.pow10Tab := by decide +kernel
/-- the table of powers of ten, out of the row's list -/
theorem pow_of_laid {W : World} {rest : List (String × DataW Unit)} {x y : String × DataW Unit} (h : laidMet Tryz.prog (x :: y :: ("internal/strconv.uint64pow10", Rows.laid_internal_strconv_uint64pow10) :: rest) W) : PowAt W := by
  have h1 : laidMet Tryz.prog (("internal/strconv.uint64pow10", Lib.tabData .u64 (tabZ Rows.laid_internal_strconv_uint64pow10)) :: rest) W := h.tail.tail
  have h2 := Lib.tabIs_of_head (rest := rest) gPw gPwType Tryz.underlying182 Tryz.underlying163 cellsPw1 cellsPw h1
  rw [pow_tab] at h2
  exact h2
end Go.Proofs.YtdclmpdjjkjfjaaGreatDoor
