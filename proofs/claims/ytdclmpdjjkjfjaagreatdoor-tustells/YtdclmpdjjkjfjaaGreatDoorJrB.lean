/- Package journal, walked: fits. -/
import Derived.Test.YtdclmpdjjkjfjaaGreatDoorPk2
import Derived.Test.YtdclmpdjjkjfjaaGreatDoorBase
import Derived.Test.YtdclmpdjjkjfjaaGreatDoorProg
import Derived.Deep.RegionWith
namespace Go.Proofs.YtdclmpdjjkjfjaaGreatDoor
open Go.RowKit
theorem inBounds_any (n : Int) (w : World) : Calls Tryz.prog 153 #[.int .i64 n] w fun e w' => e = .returned (.bool (decide (-1 ≤ n) && decide (n ≤ 1073741823))) ∧ w' = w := by
  by_cases h1 : -1 ≤ n
  · by_cases h2 : n ≤ 1073741823
    · go_enter Tryz.func153, Tryz.ntmps153
      go_wp2
      go_ret
      exact ⟨ret_bool (by simp [h1, h2]), rfl⟩
    · have H2 : Hid (decide (n ≤ 1073741823) = false) := decide_eq_false h2
      go_enter Tryz.func153, Tryz.ntmps153
      go_wp2
      go_ret
      exact ⟨ret_bool (by rw [H2.out]; try simp), rfl⟩
  · have H1 : Hid (decide (-1 ≤ n) = false) := decide_eq_false h1
    go_enter Tryz.func153, Tryz.ntmps153
    go_wp2
    go_ret
    exact ⟨ret_bool (by rw [H1.out]; rfl), rfl⟩
theorem fits_eq (e : Jn.E) : Jn.fits e = (decide (1 ≤ e.kind) && (decide (e.kind ≤ 6) && ((decide (-1 ≤ e.id) && decide (e.id ≤ 1073741823)) && ((decide (-1 ≤ e.n) && decide (e.n ≤ 1073741823)) && decide (e.text.length ≤ 1048575))))) := by
  simp only [Jn.fits, Bool.and_assoc]
set_option maxHeartbeats 1000000 in
theorem fitsJ_any (x : Jn.E) (ta : Option Addr) (tn tc : Nat) (hn : x.text.length = tn) (w : World) : Calls Tryz.prog 129 #[.agg #[.int .i64 x.kind, .int .i64 x.id, .int .i64 x.n, .slice ta tn tc]] w fun e w' => e = .returned (.bool (Jn.fits x)) ∧ Below w.heap.size w w' := by
  have HF := Hid.mk' (fits_eq x)
  have HB : Hid (Below w.heap.size w (w.alloc (.cells #[.int .i64 x.kind, .int .i64 x.id, .int .i64 x.n, .slice ta tn tc] 121))) := (Below.refl _ w).alloc (Nat.le_refl _) _
  have HI1 := Hid.mk' (fun W => inBounds_any x.id W)
  have HI2 := Hid.mk' (fun W => inBounds_any x.n W)
  rw [hn] at HF
  clear hn
  generalize Jn.fits x = f at *
  generalize x.kind = k at *
  generalize x.id = i at *
  generalize x.n = n at *
  generalize (decide (-1 ≤ i) && decide (i ≤ 1073741823)) = bi at *
  generalize (decide (-1 ≤ n) && decide (n ≤ 1073741823)) = bn at *
  by_cases h1 : 1 ≤ k
  · by_cases h2 : k ≤ 6
    · cases bi with
      | true =>
        cases bn with
        | true =>
          by_cases h5 : tn ≤ 1048575
          · have h5' : (tn : Int) ≤ 1048575 := by omega
            go_enter Tryz.func129, Tryz.ntmps129
            go_wp2_with (first
              | (go_at_call_of 153 i; refine (HI1.out _).mono ?_; rintro e w2 ⟨rfl, hw⟩; rw [hw]; clear hw)
              | (go_at_call_of 153 n; refine (HI2.out _).mono ?_; rintro e w2 ⟨rfl, hw⟩; rw [hw]; clear hw))
            go_ret
            exact ⟨ret_bool (by rw [HF.out]; simp [h1, h2, h5]), HB.out⟩
          · have h5' : ¬ (tn : Int) ≤ 1048575 := by omega
            have HF' : Hid (f = false) := by unfold Hid; have := HF.out; rw [decide_eq_false h5] at this; simpa using this
            go_enter Tryz.func129, Tryz.ntmps129
            go_wp2_with (first
              | (go_at_call_of 153 i; refine (HI1.out _).mono ?_; rintro e w2 ⟨rfl, hw⟩; rw [hw]; clear hw)
              | (go_at_call_of 153 n; refine (HI2.out _).mono ?_; rintro e w2 ⟨rfl, hw⟩; rw [hw]; clear hw))
            go_ret
            exact ⟨by rw [HF'.out]; simp; omega, HB.out⟩
        | false =>
          go_enter Tryz.func129, Tryz.ntmps129
          go_wp2_with (first
              | (go_at_call_of 153 i; refine (HI1.out _).mono ?_; rintro e w2 ⟨rfl, hw⟩; rw [hw]; clear hw)
              | (go_at_call_of 153 n; refine (HI2.out _).mono ?_; rintro e w2 ⟨rfl, hw⟩; rw [hw]; clear hw))
          go_ret
          exact ⟨ret_bool (by rw [HF.out]; simp), HB.out⟩
      | false =>
        go_enter Tryz.func129, Tryz.ntmps129
        go_wp2_with (go_at_call 153; refine (HI1.out _).mono ?_; rintro e w2 ⟨rfl, hw⟩; rw [hw]; clear hw)
        go_ret
        exact ⟨ret_bool (by rw [HF.out]; simp), HB.out⟩
    · have HF' : Hid (f = false) := by unfold Hid; have := HF.out; rw [decide_eq_false h2] at this; simpa using this
      go_enter Tryz.func129, Tryz.ntmps129
      go_wp2
      go_ret
      exact ⟨ret_bool HF'.out.symm, HB.out⟩
  · have HF' : Hid (f = false) := by unfold Hid; have := HF.out; rw [decide_eq_false h1] at this; simpa using this
    go_enter Tryz.func129, Tryz.ntmps129
    go_wp2
    go_ret
    exact ⟨ret_bool HF'.out.symm, HB.out⟩
end Go.Proofs.YtdclmpdjjkjfjaaGreatDoor
