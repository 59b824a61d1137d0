/- Plain: a reply as package reply writes it: its length is one more field. -/
import Derived.Test.YtjhbiipbmlpgoaaDoorPk3
import Derived.Test.YtjhbiipbmlpgoaaDoorRpF
import Derived.Test.YtjhbiipbmlpgoaaDoorRfRp
namespace Go.Proofs.YtjhbiipbmlpgoaaDoor
open Go.RowKit

theorem Rp.code_snoc (p : ByteArray × ByteArray) (h : (Fd.text p.1.data.toList p.2.data.toList).2 = 0) : ∀ l : List (ByteArray × ByteArray), Rp.code (l ++ [p]) = Rp.code l
  | [] => by simp [Rp.code, h]
  | q :: t => by rw [List.cons_append, Rp.code, Rp.code, Rp.code_snoc p h t]
theorem vals_bCL (l : List (ByteArray × ByteArray)) : Fd.vals bCL l = Fd.vals bLen l := by
  unfold Fd.vals
  rw [show Ch.lower bCL.data.toList = Ch.lower bLen.data.toList by decide]
/-- the field that tells how long the body is -/
def pCL (nb : Nat) : ByteArray × ByteArray := (bCL, ⟨(Ch.decF 8 nb).toArray⟩)
theorem pCL_text {nb : Nat} (h : nb < 1000000000) : (Fd.text (pCL nb).1.data.toList (pCL nb).2.data.toList).2 = 0 := (Rp.cl_text h).1
theorem pCL_line {nb : Nat} (h : nb < 1000000000) : Rp.lineT (pCL nb) = Rp.cl ++ Ch.decF 8 nb ++ [13, 10] := by
  unfold Rp.lineT
  have := (Rp.cl_text h).2
  rw [show (pCL nb).1.data.toList = Rp.nCL from rfl, show (pCL nb).2.data.toList = Ch.decF 8 nb from rfl, this]
theorem Rp.out_fault {st : Int} {l : List (ByteArray × ByteArray)} {body : List UInt8} (h : Rp.fault st l ≠ 0) : Rp.out st l body = ([], Rp.fault st l) := by
  unfold Rp.fault at h ⊢
  unfold Rp.out Rp.text
  rw [vals_bCL] at h ⊢
  split
  · rfl
  · rename_i h1
    rw [if_neg h1] at h
    split
    · rfl
    · rename_i h2
      rw [if_neg h2] at h
      split
      · rfl
      · rename_i h3
        rw [if_neg h3] at h
        exact absurd rfl h
theorem Rp.out_fine {st : Int} {l : List (ByteArray × ByteArray)} {body : List UInt8} (h : Rp.fault st l = 0) (hb : body.length < 1000000000) : Rp.word st ≠ [] ∧ l.length < 16 ∧ Rp.out st l body = if Rp.code (l ++ [pCL body.length]) ≠ 0 then ([], Rp.code (l ++ [pCL body.length])) else (Rp.first st ++ (l ++ [pCL body.length]).flatMap Rp.lineT ++ [13, 10] ++ body, 0) := by
  rw [Rp.code_snoc _ (pCL_text hb), List.flatMap_append]
  unfold Rp.fault at h
  unfold Rp.out Rp.text
  rw [vals_bCL] at h
  by_cases h1 : Rp.word st = []
  · rw [if_pos h1] at h; cases h
  rw [if_neg h1] at h ⊢
  by_cases h2 : 16 ≤ l.length
  · rw [if_pos h2] at h; cases h
  rw [if_neg h2] at h ⊢
  by_cases h3 : (Fd.vals bLen l).length ≠ 0
  · rw [if_pos h3] at h; cases h
  rw [if_neg h3]
  refine ⟨h1, by omega, ?_⟩
  split
  · rfl
  · congr 1
    simp [pCL_line hb]
end Go.Proofs.YtjhbiipbmlpgoaaDoor
