/- The library's table of powers of ten; strconv.Itoa by it, in the laws' own digits. -/
import Derived.Test.YtdclmpdjjkjfjaaGreatDoorShelf
import Derived.Test.YtdclmpdjjkjfjaaGreatDoorBase
import Derived.Test.YtdclmpdjjkjfjaaGreatDoorPk1
import Derived.Lib.AppendIntMem
namespace Go.Proofs.YtdclmpdjjkjfjaaGreatDoor
open Go.RowKit

/-- the library's table of powers of ten -/
def PowAt (w : World) : Prop := Lib.TabIs Tryz.prog w "internal/strconv.uint64pow10" .u64 Lib.pow10Tab
theorem PowAt.stay {w w' : World} (h : PowAt w) (hb : Below w.heap.size w w') : PowAt w' := by
  unfold PowAt Lib.TabIs World.var? at h ⊢
  cases hg : Tryz.prog.globalNamed "internal/strconv.uint64pow10" with
  | none => rw [hg] at h; cases h
  | some g =>
    rw [hg] at h
    simp only [Option.bind_some] at h ⊢
    cases hh : w.heap[g]? with
    | none => rw [hh] at h; cases h
    | some o => rw [hb.block g (Array.getElem?_eq_some_iff.1 hh).1]; exact h
theorem dec_digits : ∀ (f n : Nat), n < 10 ^ (f + 1) → Lib.decDigits n = Ch.decF f n
  | 0, n, h => by
    rw [Lib.decDigits, dif_pos (by simpa using h)]
    rfl
  | f + 1, n, h => by
    rw [Lib.decDigits, Ch.decF]
    by_cases hn : n < 10
    · rw [dif_pos hn, if_pos hn]
    · rw [dif_neg hn, if_neg hn, dec_digits f (n / 10) (by rw [Nat.pow_succ] at h; omega)]
theorem itoa_any (n : Nat) (hn : n < 1000000000) (W : World) (hP : PowAt W) : Calls Tryz.prog 77 #[.int .i64 (n : Int)] W fun e w' => e = .returned (.string ⟨(Ch.decF 8 n).toArray⟩) ∧ Below W.heap.size W w' := by
  have h := Any.strconv_Itoa Tryz.lays171 (n : Int) (by omega) (by omega) W hP
  rw [Lib.itoa_nonneg, dec_digits 8 n (by simpa using hn)] at h
  refine h.mono ?_
  rintro e w' ⟨he, k, os, rfl⟩
  exact ⟨he, Lib.below_grow _ W (Nat.le_refl _) k os⟩
end Go.Proofs.YtdclmpdjjkjfjaaGreatDoor
