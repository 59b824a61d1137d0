/- Package reply, walked: fault. -/
import Derived.Test.YtjhbiipbmlpgoaaDoorPk11
import Derived.Test.YtjhbiipbmlpgoaaDoorPk15
import Derived.Test.YtjhbiipbmlpgoaaDoorMemK
namespace Go.Proofs.YtjhbiipbmlpgoaaDoor
open Go.RowKit

/-- Content-Length -/
def bCL : ByteArray := ⟨#[67, 111, 110, 116, 101, 110, 116, 45, 76, 101, 110, 103, 116, 104]⟩
/-- what a reply is refused for, whatever the texts of its fields are -/
def Rp.fault (st : Int) (l : List (ByteArray × ByteArray)) : Nat := if Rp.word st = [] then 11 else if 16 ≤ l.length then 8 else if (Fd.vals bCL l).length ≠ 0 then 12 else 0
set_option maxHeartbeats 1600000 in
theorem faultR_any (w : World) (st : Int) (l : List (ByteArray × ByteArray)) (fo bo : Option Addr) (fcap bcap nb : Nat) (hl : IsV w fo fcap l.length (pairV l)) (hN : l.length ≤ 1000000) (hs : ∀ p ∈ l, p.1.size ≤ 2000 ∧ p.2.size ≤ 2000) :
    Calls Tryd.prog 16 #[.agg #[.int .i64 st, .slice fo l.length fcap, .slice bo nb bcap]] w fun e w' => e = .returned (.int .i64 (Rp.fault st l : Nat)) ∧ Below w.heap.size w w' := by
  have HX : Hid (∀ W, OneAt w #[.int .i64 st, .slice fo l.length fcap, .slice bo nb bcap] 25 W → W.cell? ⟨w.heap.size, 0, none⟩ = some (.int .i64 st) ∧ W.cell? ⟨w.heap.size, 1, none⟩ = some (.slice fo l.length fcap) ∧ W.cell? ⟨w.heap.size, 2, none⟩ = some (.slice bo nb bcap)) := fun W h => ⟨h.cell 0, h.cell 1, h.cell 2⟩
  have H0 := Hid.mk' (OneAt.made w #[.int .i64 st, .slice fo l.length fcap, .slice bo nb bcap] 25)
  have HA := Hid.mk' (fdAll_any l bCL fo fcap l.length _ (hl.stay H0.out.below) rfl hN hs (by decide))
  have HSw := Hid.mk' (fun W => wordR_any st W)
  clear hl hs
  obtain ⟨x0, x1, x2⟩ := HX.out _ H0.out
  go_enter Tryd.func16, Tryd.ntmps16
  go_wp2_with fail
  refine (HSw.out _).mono ?_
  rintro e w1 ⟨rfl, hw1⟩
  subst hw1
  by_cases hwd : Rp.word st = []
  · have HF : Hid (Rp.fault st l = 11) := by unfold Hid Rp.fault; rw [if_pos hwd]
    have tw : ((⟨(Rp.word st).toArray⟩ : ByteArray).toList == ([] : List UInt8)) = true := by rw [Lib.toList_data, hwd]; rfl
    generalize (⟨(Rp.word st).toArray⟩ : ByteArray) = wd at *
    clear hwd
    go_wp2
    go_ret
    exact ⟨by rw [HF.out]; rfl, H0.out.below⟩
  · have tw : ((⟨(Rp.word st).toArray⟩ : ByteArray).toList == ([] : List UInt8)) = false := by rw [Lib.toList_data, beq_eq_false_iff_ne]; simpa using hwd
    have HT : Hid (Rp.fault st l = if 16 ≤ l.length then 8 else if (Fd.vals bCL l).length ≠ 0 then 12 else 0) := by unfold Hid Rp.fault; rw [if_neg hwd]
    generalize (⟨(Rp.word st).toArray⟩ : ByteArray) = wd at *
    clear hwd
    by_cases h16 : 16 ≤ l.length
    · have HF : Hid (Rp.fault st l = 8) := by unfold Hid; rw [HT.out, if_pos h16]
      have t16 : decide ((l.length : Int) ≥ 16) = true := by rw [decide_eq_true_eq]; omega
      clear HT
      go_wp2
      go_ret
      exact ⟨by rw [HF.out]; rfl, H0.out.below⟩
    · have t16 : decide ((l.length : Int) ≥ 16) = false := by rw [decide_eq_false_iff_not]; omega
      rw [if_neg h16] at HT
      unfold bCL at HA
      go_wp2_with fail
      refine HA.out.mono ?_
      rintro e w2 ⟨a2, c2, rfl, _, hb2⟩
      have HO2 := Hid.mk' (H0.out.stay hb2)
      clear hb2 x0 x1 x2 HA
      rw [show (⟨#[67, 111, 110, 116, 101, 110, 116, 45, 76, 101, 110, 103, 116, 104]⟩ : ByteArray) = bCL from rfl]
      generalize (Fd.vals bCL l).length = nv at *
      by_cases hnv : 0 < nv
      · have HF : Hid (Rp.fault st l = 12) := by unfold Hid; rw [HT.out, if_pos (by omega)]
        have tn : decide ((nv : Int) > 0) = true := by rw [decide_eq_true_eq]; omega
        clear HT
        go_wp2
        go_ret
        exact ⟨by rw [HF.out]; rfl, HO2.out.below⟩
      · have HF : Hid (Rp.fault st l = 0) := by unfold Hid; rw [HT.out, if_neg (by omega)]
        have tn : decide ((nv : Int) > 0) = false := by rw [decide_eq_false_iff_not]; omega
        clear HT
        go_wp2
        go_ret
        exact ⟨by rw [HF.out]; rfl, HO2.out.below⟩
end Go.Proofs.YtjhbiipbmlpgoaaDoor
