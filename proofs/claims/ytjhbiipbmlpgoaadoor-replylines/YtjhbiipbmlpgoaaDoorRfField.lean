/- The document's own answer, walked: FieldOf. -/
import Derived.Test.YtjhbiipbmlpgoaaDoorPk13
import Derived.Test.YtjhbiipbmlpgoaaDoorPk12
import Derived.Deep.RegionHeld3
namespace Go.Proofs.YtjhbiipbmlpgoaaDoor
open Go.RowKit

set_option maxHeartbeats 1600000 in
theorem fieldOf_any (s : ByteArray) (w : World) (hs : s.size ≤ 1000000) :
    Calls Tryd.prog 14 #[.string s] w fun e w' => e = .returned (Fd.val (Fd.of s.data.toList)) ∧ Below w.heap.size w w' := by
  obtain ⟨cap, w1, hconv, hB1, hz1, hI1⟩ := bytes_of (P := Tryd.prog) (w.alloc (.cells #[.string ⟨#[]⟩, .string ⟨#[]⟩] 36)) s 9 23 5 Tryd.underlying9 Tryd.underlying23 Tryd.underlying5
  have e0 : (w.alloc (.cells #[.string ⟨#[]⟩, .string ⟨#[]⟩] 36)).heap.size = w.heap.size + 1 := by simp
  rw [e0] at hconv hB1 hz1 hI1
  have c0 : w1.cell? ⟨w.heap.size, 0, none⟩ = some (.string ⟨#[]⟩) := (hB1.cell (p := ⟨w.heap.size, 0, none⟩) (by simp)).trans (World.cell?_alloc_mark w _ _ _ 0)
  have c1 : w1.cell? ⟨w.heap.size, 1, none⟩ = some (.string ⟨#[]⟩) := (hB1.cell (p := ⟨w.heap.size, 1, none⟩) (by simp)).trans (World.cell?_alloc_mark w _ _ _ 1)
  have f0 : w1.frozen? ⟨w.heap.size, 0, none⟩ = false := (hB1.frozen (p := ⟨w.heap.size, 0, none⟩) (by simp)).trans (World.frozen?_alloc_mark w _ _ _ _ 0)
  have f1 : w1.frozen? ⟨w.heap.size, 1, none⟩ = false := (hB1.frozen (p := ⟨w.heap.size, 1, none⟩) (by simp)).trans (World.frozen?_alloc_mark w _ _ _ _ 1)
  have HB : Hid (Below w.heap.size w w1) := ((Below.refl _ _).alloc (Nat.le_refl _) _).trans (hB1.mono (by omega))
  have HF := Hid.mk' (find_any w1 _ cap s.size s.data.toList ⟨#[58]⟩ hI1 (by rw [Array.length_toList]; rfl) (by decide) hs)
  clear hI1 hB1 e0
  go_enter Tryd.func14, Tryd.ntmps14
  go_wp2_with fail
  refine HF.out.mono ?_
  rintro e w2 ⟨r, rfl, hfi, hw⟩
  subst hw
  have hl : s.data.toList.length = s.size := by rw [Array.length_toList]; rfl
  clear HF hconv
  rcases find_one hfi with ⟨hr, hk⟩ | ⟨hr, hk⟩
  · subst hr
    have HR : Hid (Fd.of s.data.toList = Fd.bad 5) := by unfold Hid Fd.of; rw [if_pos hk]
    clear hk hl hfi
    go_wp2
    refine bodyPost_ret (v := .tuple #[.agg #[.string ⟨#[]⟩, .string ⟨#[]⟩], .int .i64 5]) (by simp [results, Tryd.results14, go_sem, c0, c1]) rfl ⟨by rw [HR.out]; rfl, ?_⟩
    exact (HB.out.setCell (Nat.le_refl _) _).setCell (Nat.le_refl _) _
  · subst hr
    have hk40 : Fd.at_ 58 s.data.toList ≤ s.data.toList.length := Fd.at_le _ _
    have hke := Fd.of s.data.toList
    clear hke
    have hof : Fd.of s.data.toList = if Ch.isToken (s.data.toList.take (Fd.at_ 58 s.data.toList)) = false then Fd.bad 6 else if 40 < Fd.at_ 58 s.data.toList then Fd.bad 4 else if Ch.isVisible (s.data.toList.drop (Fd.at_ 58 s.data.toList + 1)) = false then Fd.bad 3
      else ⟨s.data.toList.take (Fd.at_ 58 s.data.toList), Lib.trimS (s.data.toList.drop (Fd.at_ 58 s.data.toList + 1)) Ch.ws, 0⟩ := by
      conv => lhs; unfold Fd.of
      rw [if_neg (by omega)]
    rw [hl] at hk
    clear hk40 hl hfi
    generalize Fd.at_ 58 s.data.toList = k at hof hk
    have e1 : (s.extract 0 k).data.toList = s.data.toList.take k := by rw [Lib.extract_data]; simp
    have e2 : (s.extract (k + 1) s.size).data.toList = s.data.toList.drop (k + 1) := Lib.extract_to_end s (k + 1)
    rw [← e1, ← e2] at hof
    have z1 : (s.extract 0 k).size ≤ maxLen := by simp [maxLen]; omega
    have z2 : (s.extract (k + 1) s.size).size ≤ maxLen := by simp [maxLen]; omega
    have HT := Hid.mk' (tokenText_any (s.extract 0 k) w2 z1)
    have HV := Hid.mk' (seenText_any (s.extract (k + 1) s.size) w2 z2)
    have HTr := Hid.mk' (fun W => trimmed_any (s.extract (k + 1) s.size) W z2)
    clear e1 e2 z1 z2
    have b1 : (k : Int) + 1 ≤ s.size := by omega
    have b2 : (k : Int) ≤ s.size := by omega
    have HO := Hid.mk' hof
    clear hof
    cases ht : Ch.isToken (s.extract 0 k).data.toList
    · rw [ht] at HT
      have HR : Hid (Fd.of s.data.toList = Fd.bad 6) := by have := HO.out; rw [if_pos ht] at this; exact this
      clear HO ht HV HTr
      go_wp2_with fail
      refine HT.out.mono ?_
      rintro e w3 ⟨rfl, hw⟩
      subst hw
      go_wp2
      refine bodyPost_ret (v := .tuple #[.agg #[.string ⟨#[]⟩, .string ⟨#[]⟩], .int .i64 6]) (by simp [results, Tryd.results14, go_sem, c0, c1]) rfl ⟨by rw [HR.out]; rfl, ?_⟩
      exact (HB.out.setCell (Nat.le_refl _) _).setCell (Nat.le_refl _) _
    · rw [ht] at HT
      have h6 := HO.out
      rw [if_neg (by rw [ht]; simp)] at h6
      have HO6 := Hid.mk' h6
      clear HO ht h6
      by_cases h40 : 40 < k
      · have HR : Hid (Fd.of s.data.toList = Fd.bad 4) := by have := HO6.out; rw [if_pos h40] at this; exact this
        clear HO6 HV HTr
        go_wp2_with fail
        refine HT.out.mono ?_
        rintro e w3 ⟨rfl, hw⟩
        subst hw
        go_wp2
        refine bodyPost_ret (v := .tuple #[.agg #[.string ⟨#[]⟩, .string ⟨#[]⟩], .int .i64 4]) (by simp [results, Tryd.results14, go_sem, c0, c1]) rfl ⟨by rw [HR.out]; rfl, ?_⟩
        exact (HB.out.setCell (Nat.le_refl _) _).setCell (Nat.le_refl _) _
      · have h4 := HO6.out
        rw [if_neg h40] at h4
        have HO4 := Hid.mk' h4
        clear HO6 h4
        have t40 : decide ((k : Int) > 40) = false := by rw [decide_eq_false_iff_not]; omega
        cases hv : Ch.isVisible (s.extract (k + 1) s.size).data.toList
        · rw [hv] at HV
          have HR : Hid (Fd.of s.data.toList = Fd.bad 3) := by have := HO4.out; rw [if_pos hv] at this; exact this
          clear HO4 hv HTr
          go_wp2_with fail
          refine HT.out.mono ?_
          rintro e w3 ⟨rfl, hw⟩
          subst hw
          go_wp2_with fail
          refine HV.out.mono ?_
          rintro e w3 ⟨rfl, hw⟩
          subst hw
          go_wp2
          refine bodyPost_ret (v := .tuple #[.agg #[.string ⟨#[]⟩, .string ⟨#[]⟩], .int .i64 3]) (by simp [results, Tryd.results14, go_sem, c0, c1]) rfl ⟨by rw [HR.out]; rfl, ?_⟩
          exact (HB.out.setCell (Nat.le_refl _) _).setCell (Nat.le_refl _) _
        · rw [hv] at HV
          have h3 := HO4.out
          rw [if_neg (by rw [hv]; simp)] at h3
          have HR := Hid.mk' h3
          clear HO4 hv h3
          have HN : Hid ((s.extract 0 k) = ⟨(s.extract 0 k).data.toList.toArray⟩) := by unfold Hid; rfl
          generalize (Lib.trimS (s.extract (k + 1) s.size).data.toList Ch.ws) = tv at HTr HR
          have b3 : IntKind.i64.wrap ((k : Int) + 1) = (k : Int) + 1 := wrap_id (by omega) (by omega)
          have b4 : (0 : Int) ≤ (k : Int) + 1 := by omega
          have b5 : ((k : Int) + 1).toNat = k + 1 := by omega
          go_wp2_with fail
          refine HT.out.mono ?_
          rintro e w3 ⟨rfl, hw⟩
          subst hw
          go_wp2_with fail
          refine HV.out.mono ?_
          rintro e w3 ⟨rfl, hw⟩
          subst hw
          go_wp2
          go_region_held3 (fun _ => True) (trivial) (first | (go_at_call 26; refine (HTr.out _).mono ?_; rintro e w4 ⟨rfl, rfl⟩))
          all_goals
            go_wp2
            refine bodyPost_ret (v := .tuple #[.agg #[.string (s.extract 0 k), .string ⟨tv.toArray⟩], .int .i64 0]) (by simp [results, Tryd.results14, go_sem, c0, c1]) rfl ⟨by rw [HR.out]; rfl, ?_⟩
            exact ((HB.out.trans (below_drew _ _)).setCell (Nat.le_refl _) _).setCell (Nat.le_refl _) _
end Go.Proofs.YtjhbiipbmlpgoaaDoor
