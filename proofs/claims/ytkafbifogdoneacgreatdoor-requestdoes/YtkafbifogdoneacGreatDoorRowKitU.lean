/- The table of powers of ten that rows of this program list: what a row gives of it. -/
import Derived.Test.YtkafbifogdoneacGreatDoorRowKitT
import Derived.Test.YtkafbifogdoneacGreatDoorFbPow
namespace Go.Proofs.YtkafbifogdoneacGreatDoor
open Go.ChangeShapes Go.WideShapes Go.ChangeAt Go.RowKit

theorem gPw : Tryz.prog.globalNamed "internal/strconv.uint64pow10" = some 1 := by kernel_rfl
theorem gPwType : (Tryz.prog.globals[1]?).map (·.type) = some 223 := by kernel_rfl
theorem cellsPw : Tryz.prog.cellsOf 223 = 20 := by kernel_rfl
theorem cellsPw1 : Tryz.prog.cellsOf 207 = 1 := by kernel_rfl
theorem pow_tab : tabZ Rows.laid_internal_strconv_uint64pow10 = Lib.pow10Tab := by decide +kernel
/-- the table of powers of ten, out of the row's list -/
theorem pow_of_laid {W : World} {rest : List (String × DataW Unit)} {x y : String × DataW Unit} (h : laidMet Tryz.prog (x :: y :: ("internal/strconv.uint64pow10", Rows.laid_internal_strconv_uint64pow10) :: rest) W) : PowAt W := by
  have h1 : laidMet Tryz.prog (("internal/strconv.uint64pow10", Lib.tabData .u64 (tabZ Rows.laid_internal_strconv_uint64pow10)) :: rest) W := h.tail.tail
  have h2 := Lib.tabIs_of_head (rest := rest) gPw gPwType Tryz.underlying223 Tryz.underlying207 cellsPw1 cellsPw h1
  rw [pow_tab] at h2
  exact h2
end Go.Proofs.YtkafbifogdoneacGreatDoor
