/- The document's own answer, walked: statusOf, numberIn; a field's values by their plain names. -/
import Derived.Test.YtdclmpdjjkjfjaaGreatDoorPk6
import Derived.Test.YtdclmpdjjkjfjaaGreatDoorPk15
import Derived.Test.YtdclmpdjjkjfjaaGreatDoorPk14
import Derived.Test.YtdclmpdjjkjfjaaGreatDoorPk11
namespace Go.Proofs.YtdclmpdjjkjfjaaGreatDoor
open Go.RowKit

theorem Tu.vals_eq (n : ByteArray) (l : List (ByteArray × ByteArray)) : Fd.vals n l = Tu.vals n l := rfl
theorem Tu.one_eq (vs : List ByteArray) : Fd.one vs = Tu.one vs := by
  rcases vs with _ | ⟨v, _ | ⟨v2, t⟩⟩ <;> rfl
theorem Tu.one_size (l : List (ByteArray × ByteArray)) (n : ByteArray) (B : Nat) (h : ∀ p ∈ l, p.2.size ≤ B) : (Tu.one (Tu.vals n l)).1.length ≤ B := by
  have hv : ∀ v ∈ Tu.vals n l, v.size ≤ B := fun v hv => by
    unfold Tu.vals at hv
    obtain ⟨p, hp, rfl⟩ := List.mem_map.1 hv
    exact h p (List.mem_filter.1 hp).1
  unfold Tu.one
  split
  · simp
  · rename_i v hq
    have := hv v (by rw [hq]; simp)
    rw [Array.length_toList]; exact this
  · simp
theorem statusOf_any (c : Nat) (w : World) :
    Calls Tryz.prog 32 #[.int .i64 (c : Int)] w fun e w' => e = .returned (.int .i64 (Tu.status c : Nat)) ∧ w' = w := by
  by_cases h10 : c = 10
  · subst h10
    go_enter Tryz.func32, Tryz.ntmps32
    go_wp2
    go_ret
    exact ⟨rfl, rfl⟩
  by_cases h17 : c = 17
  · subst h17
    go_enter Tryz.func32, Tryz.ntmps32
    go_wp2
    go_ret
    exact ⟨rfl, rfl⟩
  by_cases h19 : c = 19
  · subst h19
    go_enter Tryz.func32, Tryz.ntmps32
    go_wp2
    go_ret
    exact ⟨rfl, rfl⟩
  by_cases h4 : c = 4
  · subst h4
    go_enter Tryz.func32, Tryz.ntmps32
    go_wp2
    go_ret
    exact ⟨rfl, rfl⟩
  by_cases h8 : c = 8
  · subst h8
    go_enter Tryz.func32, Tryz.ntmps32
    go_wp2
    go_ret
    exact ⟨rfl, rfl⟩
  by_cases h16 : c = 16
  · subst h16
    go_enter Tryz.func32, Tryz.ntmps32
    go_wp2
    go_ret
    exact ⟨rfl, rfl⟩
  have HS : Hid (Tu.status c = 400) := by
    unfold Hid Tu.status
    rw [if_neg h10, if_neg (by omega), if_neg h4, if_neg (by omega)]
  have t10 : ((c : Int) == 10) = false := by rw [beq_eq_false_iff_ne]; omega
  have t17 : ((c : Int) == 17) = false := by rw [beq_eq_false_iff_ne]; omega
  have t19 : ((c : Int) == 19) = false := by rw [beq_eq_false_iff_ne]; omega
  have t4 : ((c : Int) == 4) = false := by rw [beq_eq_false_iff_ne]; omega
  have t8 : ((c : Int) == 8) = false := by rw [beq_eq_false_iff_ne]; omega
  have t16 : ((c : Int) == 16) = false := by rw [beq_eq_false_iff_ne]; omega
  clear h10 h17 h19 h4 h8 h16
  go_enter Tryz.func32, Tryz.ntmps32
  go_wp2
  go_ret
  exact ⟨by rw [HS.out]; rfl, rfl⟩
set_option maxHeartbeats 800000 in
theorem numberIn_any (m t : ByteArray) (mi ln : Int) (l : List (ByteArray × ByteArray)) (fo : Option Addr) (fcap : Nat) (name : ByteArray) (w : World) (hl : IsV w fo fcap l.length (pairV l)) (hN : l.length ≤ 1000000) (hs : ∀ p ∈ l, p.1.size ≤ 2000 ∧ p.2.size ≤ 2000) (hnm : name.size ≤ 2000) :
    Calls Tryz.prog 30 #[.agg #[.string m, .string t, .int .i64 mi, .slice fo l.length fcap, .int .i64 ln], .string name] w fun e w' => e = .returned (.tuple #[.int .i64 (Tu.numIn (Tu.one (Tu.vals name l))).1, .bool (Tu.numIn (Tu.one (Tu.vals name l))).2]) ∧ Below w.heap.size w w' := by
  have H0 := Hid.mk' (OneAt.made w #[.string m, .string t, .int .i64 mi, .slice fo l.length fcap, .int .i64 ln] 35)
  have HO := Hid.mk' (oneOf_any l name fo fcap l.length _ (hl.stay H0.out.below) rfl hN (fun p hp => (hs p hp).1) hnm)
  rw [Tu.one_eq, Tu.vals_eq] at HO
  have hz := Tu.one_size l name 2000 (fun p hp => (hs p hp).2)
  clear hl hs
  generalize Tu.one (Tu.vals name l) = r at *
  have x3 : (w.alloc (.cells #[.string m, .string t, .int .i64 mi, .slice fo l.length fcap, .int .i64 ln] 35)).cell? ⟨w.heap.size, 3, none⟩ = some (.slice fo l.length fcap) := H0.out.cell 3
  have HNb := Hid.mk' (fun W => numberOf_any ⟨r.1.toArray⟩ W (by show r.1.toArray.size ≤ _; rw [List.size_toArray]; unfold maxLen; omega))
  unfold txVal at HO
  obtain ⟨v, c⟩ := r
  simp only at *
  by_cases h10 : c = 10
  · subst h10
    have HE : Hid (Tu.numIn (v, 10) = (-1, true)) := by unfold Hid Tu.numIn; rw [if_pos rfl]
    generalize (⟨v.toArray⟩ : ByteArray) = vb at *
    go_enter Tryz.func30, Tryz.ntmps30
    go_wp2_with fail
    refine HO.out.mono ?_
    rintro e w1 ⟨rfl, hb1⟩
    have HO1 := Hid.mk' (H0.out.stay hb1)
    clear hb1 HO
    go_wp2
    go_ret2
    exact ⟨by rw [HE.out]; rfl, HO1.out.below⟩
  · have t10 : ((c : Int) == 10) = false := by rw [beq_eq_false_iff_ne]; omega
    have HE : Hid (Tu.numIn (v, c) = ((Ch.number 10 9 v).1, (Ch.number 10 9 v).2 && decide (c = 0))) := by unfold Hid Tu.numIn; rw [if_neg h10]
    generalize (⟨v.toArray⟩ : ByteArray) = vb at *
    generalize Ch.number 10 9 v = nb at *
    obtain ⟨n, b⟩ := nb
    simp only at *
    obtain ⟨tz, htz⟩ : ∃ tz, ((c : Int) == 0) = tz := ⟨_, rfl⟩
    have HTz : Hid (tz = decide (c = 0)) := by
      unfold Hid
      rw [← htz, Bool.eq_iff_iff]; simp
    clear h10
    go_enter Tryz.func30, Tryz.ntmps30
    go_wp2_with fail
    refine HO.out.mono ?_
    rintro e w1 ⟨rfl, hb1⟩
    have HO1 := Hid.mk' (H0.out.stay hb1)
    clear hb1 HO
    go_wp2_with fail
    refine (HNb.out _).mono ?_
    rintro e w2 ⟨rfl, hb2⟩
    have HO2 := Hid.mk' (HO1.out.stay hb2)
    clear hb2 HNb
    cases b
    · go_wp2
      go_ret2
      exact ⟨by rw [HE.out]; rfl, HO2.out.below⟩
    · go_wp2
      go_ret2
      exact ⟨by rw [HE.out, ← HTz.out]; rfl, HO2.out.below⟩
end Go.Proofs.YtdclmpdjjkjfjaaGreatDoor
