/- Package journal, and the document's own answer, walked: a number that is read. -/
import Derived.Test.YtdclmpdjjkjfjaaGreatDoorPk2
import Derived.Test.YtdclmpdjjkjfjaaGreatDoorBase
import Derived.Test.YtdclmpdjjkjfjaaGreatDoorPk3
import Derived.Test.YtdclmpdjjkjfjaaGreatDoorProg
import Derived.Deep.DeepCutAuto
namespace Go.Proofs.YtdclmpdjjkjfjaaGreatDoor
open Go.RowKit

/-- what is answered of a number -/
def rnOut (b : List UInt8) : Int × Nat := match Jn.rn b with
  | none => (0, 0)
  | some p => p
theorem rnOut_of (b : List UInt8) : rnOut b = match Jn.rd b with
    | none => (0, 0)
    | some (m, s) => ((m : Int) - 1, s) := by
  unfold rnOut Jn.rn
  cases Jn.rd b <;> rfl
/-- a loop over a number's bytes: i of them went on, their sum is S -/
def RdRel (b : List UInt8) (i S : Nat) : Prop := S < 128 ^ i ∧ Jn.rd b = (Jn.rdG (5 - i) (decide (i = 0)) (b.drop i)).map fun p => (S + 128 ^ i * p.1, p.2 + i)
theorem RdRel.zero (b : List UInt8) : RdRel b 0 0 := by
  refine ⟨by decide, ?_⟩
  unfold Jn.rd
  show _ = (Jn.rdG 5 true b).map _
  cases Jn.rdG 5 true b with
  | none => rfl
  | some p => simp
theorem RdRel.end_ {b : List UInt8} {i S : Nat} (h : RdRel b i S) (hi : ¬ (i < b.length ∧ i < 5)) : Jn.rd b = none := by
  rw [h.2]
  by_cases h5 : i < 5
  · rw [List.drop_eq_nil_of_le (by omega), Jn.rdG_nil]; rfl
  · obtain ⟨k, hk⟩ : ∃ k, k = 5 - i := ⟨_, rfl⟩
    rw [← hk, show k = 0 by omega]; rfl
theorem RdRel.on {b : List UInt8} {i S : Nat} (h : RdRel b i S) (h5 : i < 5) (hl : i < b.length) (hc : ¬ b[i].toNat < 128) : RdRel b (i + 1) (S + b[i].toNat % 128 * 128 ^ i) := by
  refine ⟨?_, ?_⟩
  · have h1 := h.1
    rw [Nat.pow_succ]
    have h2 : b[i].toNat % 128 ≤ 127 := by omega
    have h3 : b[i].toNat % 128 * 128 ^ i ≤ 127 * 128 ^ i := Nat.mul_le_mul_right _ h2
    omega
  · rw [h.2, Jn.rdG_at b i h5 hl _ rfl, if_neg hc]
    have hd : decide (i + 1 = 0) = false := by simp
    rw [hd]
    cases Jn.rdG (5 - (i + 1)) false (b.drop (i + 1)) with
    | none => rfl
    | some p =>
      obtain ⟨m, s⟩ := p
      simp only [Option.map_some]
      congr 2
      · rw [Nat.pow_succ, Nat.mul_add, Nat.add_assoc]
        congr 2
        · exact Nat.mul_comm _ _
        · rw [Nat.mul_assoc]
      · omega
theorem RdRel.zero_ {b : List UInt8} {i S : Nat} (h : RdRel b i S) (h5 : i < 5) (hl : i < b.length) (hc : b[i].toNat = 0) (hi : 0 < i) : Jn.rd b = none := by
  rw [h.2, Jn.rdG_at b i h5 hl _ rfl, if_pos (by omega), if_pos ⟨hc, by simp; omega⟩]; rfl
theorem RdRel.last {b : List UInt8} {i S : Nat} (h : RdRel b i S) (h5 : i < 5) (hl : i < b.length) (hc : b[i].toNat < 128) (hi : ¬ (b[i].toNat = 0 ∧ 0 < i)) : Jn.rd b = some (S + b[i].toNat % 128 * 128 ^ i, i + 1) := by
  rw [h.2, Jn.rdG_at b i h5 hl _ rfl, if_pos hc, if_neg (by rintro ⟨h1, h2⟩; exact hi ⟨h1, by simp at h2; omega⟩)]
  simp only [Option.map_some]
  rw [Nat.mod_eq_of_lt hc, Nat.mul_comm]
  congr 2
  omega
theorem pow_five {i : Nat} (h : i < 5) : i = 0 ∨ i = 1 ∨ i = 2 ∨ i = 3 ∨ i = 4 := by omega

set_option maxRecDepth 100000 in
set_option maxHeartbeats 2000000 in
theorem readNumber_any (b : List UInt8) (ao : Option Addr) (cap n : Nat) (w : World) (hB : IsB w ao cap b) (hn : b.length = n) (hN : n ≤ 1000000000) :
    Calls Tryz.prog 97 #[.slice ao n cap] w fun e w' => e = .returned (.tuple #[.int .i64 (rnOut b).1, .int .i64 ((rnOut b).2 : Int)]) ∧ w' = w := by
  have HO := Hid.mk' (rnOut_of b)
  have HI := Hid.mk' hB
  have hcap := hB.1
  rw [hn] at hcap
  obtain ⟨k, hk5, hkn⟩ : ∃ k : Nat, k ≤ 5 ∧ (k = n ∧ n ≤ 5 ∨ k = 5 ∧ 5 < n) := by
    by_cases h : n ≤ 5
    · exact ⟨n, h, Or.inl ⟨rfl, h⟩⟩
    · exact ⟨5, Nat.le_refl _, Or.inr ⟨rfl, by omega⟩⟩
  clear hB
  go_enter Tryz.func97, Tryz.ntmps97
  go_upto_region 2 with fail
  go_cut [11, 12, 13] (fun vs vk vi wd => vs = .slice ao k cap ∧ vk = .int .i64 k ∧ vi = .int .i64 0 ∧ wd = w)
  case first =>
    rcases hkn with ⟨rfl, h5⟩ | ⟨rfl, h5⟩
    · have h5' : ¬ (5 : Int) < k := by omega
      go_wp2
      go_meet
      exact ⟨rfl, rfl, rfl, rfl⟩
    · have h5' : (5 : Int) < n := by omega
      have h5c : (5 : Int) ≤ cap := by omega
      go_wp2
      go_meet
      exact ⟨rfl, rfl, rfl, rfl⟩
  case rest =>
    obtain ⟨rfl, rfl, rfl, rfl⟩ := hcut
    have hkn' : k ≤ n := by omega
    have HK : Hid (∀ i, ¬ i < k → ¬ (i < b.length ∧ i < 5)) := fun i hi => by omega
    clear hkn
    go_wp2
    go_loopw [4, 13] (fun vs vi wr => ∃ (i S : Nat), i ≤ k ∧ vs = .int .i64 S ∧ vi = .int .i64 i ∧ RdRel b i S ∧ wr = wc) (fun _ vi _ => k - (intOf vi).toNat)
    case atStart => exact ⟨0, 0, Nat.zero_le _, rfl, rfl, RdRel.zero b, rfl⟩
    case round =>
      obtain ⟨i, S, hi, rfl, rfl, hR, hw⟩ := hrel
      subst hw
      have HR := Hid.mk' hR
      by_cases hlt : i < k
      · obtain ⟨bb, oo, rfl, hc⟩ := HI.out.lit (by omega)
        have hib : i < b.length := by omega
        have hc0 := hc i hib
        have hlt' : (i : Int) < k := by omega
        have hon := hR.on (by omega) hib
        have hze := hR.zero_ (by omega) hib
        have hla := hR.last (by omega) hib
        have hS := hR.1
        clear hR HI hc
        generalize b[i] = c at *
        have hcl := c.toNat_lt
        by_cases h128 : c.toNat < 128
        · have h1 : ¬ (128 : Int) ≤ c.toNat := by omega
          by_cases hz : c.toNat = 0 ∧ 0 < i
          · have HX := Hid.mk' (hze hz.1 hz.2)
            have hz1 : ((c.toNat : Int) == 0) = true := by rw [beq_iff_eq]; omega
            obtain ⟨hz2, hz3⟩ := hz
            clear hon hze hla
            rcases pow_five (i := i) (by omega) with rfl | rfl | rfl | rfl | rfl
            · omega
            · skip
              go_wp2
              go_ret2
              exact ⟨by rw [HO.out, HX.out]; rfl, rfl⟩
            · skip
              go_wp2
              go_ret2
              exact ⟨by rw [HO.out, HX.out]; rfl, rfl⟩
            · skip
              go_wp2
              go_ret2
              exact ⟨by rw [HO.out, HX.out]; rfl, rfl⟩
            · skip
              go_wp2
              go_ret2
              exact ⟨by rw [HO.out, HX.out]; rfl, rfl⟩
          · have HX := Hid.mk' (hla h128 hz)
            clear hon hze hla
            rcases pow_five (i := i) (by omega) with rfl | rfl | rfl | rfl | rfl
            · rw [Nat.add_zero] at hc0
              go_wp2
              all_goals
                go_ret2
                refine ⟨?_, rfl⟩
                rw [HO.out, HX.out]
                first | (simp; done) | (simp; omega)
            · skip
              go_wp2
              all_goals
                go_ret2
                refine ⟨?_, rfl⟩
                rw [HO.out, HX.out]
                first | (simp; done) | (simp; omega)
            · skip
              go_wp2
              all_goals
                go_ret2
                refine ⟨?_, rfl⟩
                rw [HO.out, HX.out]
                first | (simp; done) | (simp; omega)
            · skip
              go_wp2
              all_goals
                go_ret2
                refine ⟨?_, rfl⟩
                rw [HO.out, HX.out]
                first | (simp; done) | (simp; omega)
            · skip
              go_wp2
              all_goals
                go_ret2
                refine ⟨?_, rfl⟩
                rw [HO.out, HX.out]
                first | (simp; done) | (simp; omega)
        · have h1 : (128 : Int) ≤ c.toNat := by omega
          have HX := Hid.mk' (hon h128)
          clear hon hze hla
          rcases pow_five (i := i) (by omega) with rfl | rfl | rfl | rfl | rfl
          · rw [Nat.add_zero] at hc0
            go_wp2
            go_roundw
            case rel => exact ⟨1, S + c.toNat % 128 * 128 ^ 0, by omega, by first | (congr 1; done) | (congr 1; omega), by go_num, HX.out, by first | rfl | trivial⟩
            case measure => simp [intOf]; omega
          · skip
            go_wp2
            go_roundw
            case rel => exact ⟨2, S + c.toNat % 128 * 128 ^ 1, by omega, by first | (congr 1; done) | (congr 1; omega), by go_num, HX.out, by first | rfl | trivial⟩
            case measure => simp [intOf]; omega
          · skip
            go_wp2
            go_roundw
            case rel => exact ⟨3, S + c.toNat % 128 * 128 ^ 2, by omega, by first | (congr 1; done) | (congr 1; omega), by go_num, HX.out, by first | rfl | trivial⟩
            case measure => simp [intOf]; omega
          · skip
            go_wp2
            go_roundw
            case rel => exact ⟨4, S + c.toNat % 128 * 128 ^ 3, by omega, by first | (congr 1; done) | (congr 1; omega), by go_num, HX.out, by first | rfl | trivial⟩
            case measure => simp [intOf]; omega
          · skip
            go_wp2
            go_roundw
            case rel => exact ⟨5, S + c.toNat % 128 * 128 ^ 4, by omega, by first | (congr 1; done) | (congr 1; omega), by go_num, HX.out, by first | rfl | trivial⟩
            case measure => simp [intOf]; omega
      · obtain rfl : i = k := by omega
        have HE := Hid.mk' (HR.out.end_ (HK.out _ (by omega)))
        go_wp2
        go_ret2
        exact ⟨by rw [HO.out, HE.out]; rfl, rfl⟩
end Go.Proofs.YtdclmpdjjkjfjaaGreatDoor
