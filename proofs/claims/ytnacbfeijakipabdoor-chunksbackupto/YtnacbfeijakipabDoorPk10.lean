/- Small texts, one behind the other: RfSeenT, RfTrim, RfField, CsCap. -/
import Derived.Test.YtnacbfeijakipabDoorPk9
import Derived.Test.YtnacbfeijakipabDoorPk4
import Derived.Test.YtnacbfeijakipabDoorPk2
import Derived.Test.YtnacbfeijakipabDoorPk1
import Derived.Test.YtnacbfeijakipabDoorProg
import Derived.Test.YtnacbfeijakipabDoorPk8
import Derived.Deep.RegionHeld3
/- The document's own answer, walked: SeenText. -/
namespace Go.Proofs.YtnacbfeijakipabDoor
open Go.RowKit

set_option maxHeartbeats 400000 in
theorem seenText_any (s : ByteArray) (w : World) (hs : s.size ≤ maxLen) :
    Calls Tryd.prog 31 #[.string s] w fun e w' => e = .returned (.bool (Ch.isVisible s.data.toList)) ∧ w' = w := by
  unfold maxLen at hs
  go_enter Tryd.func31, Tryd.ntmps31
  go_wp2
  go_loop [3] (fun i => ∃ k : Nat, k ≤ s.size ∧ i = .int .i64 k ∧ ((s.data.toList.take k).all fun b => Ch.visible b.toNat) = true) (fun i => s.size - (intOf i).toNat)
  case atStart => exact ⟨0, Nat.zero_le _, rfl, rfl⟩
  case round =>
    obtain ⟨k, hk, rfl, hno⟩ := hrel
    have HN : Hid (((s.data.toList.take k).all fun b => Ch.visible b.toNat) = true) := hno
    clear hno
    by_cases hlt : k < s.size
    · have hb := s[k].toNat_lt
      cases he : Ch.visible (s[k].toNat : Int)
      · have HE : Hid (Ch.visible (s[k].toNat : Int) = false) := he
        go_wp2_with (go_at_call 49; refine (isSeen_any _ _).mono ?_; rintro e w' ⟨rfl, rfl⟩)
        go_ret
        refine ⟨ret_bool ?_, rfl⟩
        exact (Ch.all_of_take (fun b => Ch.visible b.toNat) s k hlt HE.out).symm
      · have HE : Hid (Ch.visible (s[k].toNat : Int) = true) := he
        go_wp2_with (go_at_call 49; refine (isSeen_any _ _).mono ?_; rintro e w' ⟨rfl, rfl⟩)
        go_round
        case rel => exact ⟨k + 1, by omega, by go_num, by rw [Ch.take_snoc s k hlt, Ch.all_snoc, HN.out, HE.out]; rfl⟩
        case measure => simp [intOf]; omega
    · go_wp2
      go_ret
      refine ⟨ret_bool ?_, rfl⟩
      unfold Ch.isVisible
      rw [← HN.out, Ch.take_all s k (by omega)]
end Go.Proofs.YtnacbfeijakipabDoor

/- The document's own answer, walked: Trimmed. -/
namespace Go.Proofs.YtnacbfeijakipabDoor
open Go.RowKit

set_option maxHeartbeats 400000 in
theorem trimmed_any (s : ByteArray) (w : World) (hs : s.size ≤ maxLen) :
    Calls Tryd.prog 32 #[.string s] w fun e w' => e = .returned (.string ⟨(Lib.trimS s.data.toList Ch.ws).toArray⟩) ∧ w' = w := by
  unfold maxLen at hs
  go_enter Tryd.func32, Tryd.ntmps32
  go_wp2
  go_loop [0] (fun v => ∃ x : ByteArray, v = .string x ∧ x.size ≤ s.size ∧ Lib.trimLeftS x.data.toList Ch.ws = Lib.trimLeftS s.data.toList Ch.ws) (fun v => strLen v)
  case atStart => exact ⟨s, rfl, Nat.le_refl _, rfl⟩
  case round =>
    obtain ⟨x, rfl, hxs, hx⟩ := hrel
    have HX : Hid (Lib.trimLeftS x.data.toList Ch.ws = Lib.trimLeftS s.data.toList Ch.ws) := hx
    clear hx
    by_cases hgo : ∃ h : 0 < x.size, Ch.ws.contains (x[0]'h) = true
    · obtain ⟨h0, hp⟩ := hgo
      have hpos : decide ((0 : Int) < (x.size : Int)) = true := decide_eq_true (by omega)
      have HP : Hid (Ch.ws.contains (x[0]'h0) = true) := hp
      rw [Ch.ws_eq] at hp
      cases h32 : (((x[0]'h0).toNat : Int) == 32)
      · rw [h32, Bool.false_or] at hp
        go_wp2
        go_round
        case rel => exact ⟨x.extract 1 x.size, rfl, by simp; omega, by rw [Lib.extract_to_end, Ch.left_step x h0 HP.out, HX.out]⟩
        case measure => simp [strLen]; omega
      · clear hp
        go_wp2
        go_round
        case rel => exact ⟨x.extract 1 x.size, rfl, by simp; omega, by rw [Lib.extract_to_end, Ch.left_step x h0 HP.out, HX.out]⟩
        case measure => simp [strLen]; omega
    · have hstop : ∀ h : 0 < x.size, Ch.ws.contains (x[0]'h) = false := fun h => by
        cases e : Ch.ws.contains (x[0]'h)
        · rfl
        · exact absurd ⟨h, e⟩ hgo
      have HD : Hid (x.data.toList = Lib.trimLeftS s.data.toList Ch.ws) := (Ch.left_stop x hstop).symm.trans HX.out
      clear hgo HX
      have hne : x.size = 0 ∨ (0 < x.size ∧ ∀ h : 0 < x.size, (((x[0]'h).toNat : Int) == 32) = false ∧ (((x[0]'h).toNat : Int) == 9) = false) := by
        rcases Nat.eq_zero_or_pos x.size with h | h
        · exact Or.inl h
        · refine Or.inr ⟨h, fun h' => ?_⟩
          have := hstop h'
          rw [Ch.ws_eq, Bool.or_eq_false_iff] at this
          exact this
      clear hstop
      rcases hne with hz | ⟨h0, hne⟩
      · have hpos : decide ((0 : Int) < (x.size : Int)) = false := decide_eq_false (by omega)
        obtain rfl := Ch.empty_eq x hz
        go_wp2
        refine wp_loop_rounds 1 ?_
        rw [rounds_succ]
        go_wp2
        go_ret
        refine ⟨ret_str ?_, rfl⟩
        rw [← Ch.trim_both, ← HD.out]
        rfl
      · have hpos : decide ((0 : Int) < (x.size : Int)) = true := decide_eq_true (by omega)
        have h32 := (hne h0).1
        have h9 := (hne h0).2
        clear hne
        go_wp2
        go_loop [0] (fun v => ∃ y : ByteArray, v = .string y ∧ y.size ≤ x.size ∧ Lib.trimRightS y.data.toList Ch.ws = Lib.trimRightS x.data.toList Ch.ws) (fun v => strLen v)
        case atStart => exact ⟨x, rfl, Nat.le_refl _, rfl⟩
        case round =>
          obtain ⟨y, rfl, hys, hy⟩ := hrel
          have HY : Hid (Lib.trimRightS y.data.toList Ch.ws = Lib.trimRightS x.data.toList Ch.ws) := hy
          clear hy h32 h9 hpos
          by_cases hgo : ∃ h : 0 < y.size, Ch.ws.contains (y[y.size - 1]'(by omega)) = true
          · obtain ⟨hy0, hp⟩ := hgo
            have hypos : decide ((0 : Int) < (y.size : Int)) = true := decide_eq_true (by omega)
            have HP : Hid (Ch.ws.contains (y[y.size - 1]'(by omega)) = true) := hp
            rw [Ch.ws_eq] at hp
            cases hy32 : (((y[y.size - 1]'(by omega)).toNat : Int) == 32)
            · rw [hy32, Bool.false_or] at hp
              go_wp2
              go_round
              case rel => exact ⟨y.extract 0 (y.size - 1), rfl, by simp; omega, by rw [Lib.extract_data, List.drop_zero, Nat.sub_zero, Ch.right_step y hy0 HP.out, HY.out]⟩
              case measure => simp [strLen]; omega
            · clear hp
              go_wp2
              go_round
              case rel => exact ⟨y.extract 0 (y.size - 1), rfl, by simp; omega, by rw [Lib.extract_data, List.drop_zero, Nat.sub_zero, Ch.right_step y hy0 HP.out, HY.out]⟩
              case measure => simp [strLen]; omega
          · have hstop : ∀ h : 0 < y.size, Ch.ws.contains (y[y.size - 1]'(by omega)) = false := fun h => by
              cases e : Ch.ws.contains (y[y.size - 1]'(by omega))
              · rfl
              · exact absurd ⟨h, e⟩ hgo
            have HF : Hid (y = ⟨(Lib.trimS s.data.toList Ch.ws).toArray⟩) := Ch.str_eq (by rw [← Ch.trim_both, ← HD.out, ← HY.out, Ch.right_stop y hstop])
            clear hgo HY HD
            rcases Nat.eq_zero_or_pos y.size with hz | hy0
            · have hypos : decide ((0 : Int) < (y.size : Int)) = false := decide_eq_false (by omega)
              go_wp2
              go_ret
              exact ⟨ret_str HF.out, rfl⟩
            · have hypos : decide ((0 : Int) < (y.size : Int)) = true := decide_eq_true (by omega)
              have hst := hstop hy0
              rw [Ch.ws_eq, Bool.or_eq_false_iff] at hst
              have hy32 := hst.1
              have hy9 := hst.2
              clear hst hstop
              go_wp2
              go_ret
              exact ⟨ret_str HF.out, rfl⟩
end Go.Proofs.YtnacbfeijakipabDoor

/- The document's own answer, walked: FieldOf. -/
namespace Go.Proofs.YtnacbfeijakipabDoor
open Go.RowKit

/-- what is told, as a value -/
def Fd.val (t : Fd.Told) : Value := .tuple #[.agg #[.string ⟨t.name.toArray⟩, .string ⟨t.value.toArray⟩], .int .i64 (t.code : Int)]

set_option maxHeartbeats 1600000 in
theorem fieldOf_any (s : ByteArray) (w : World) (hs : s.size ≤ 1000000) :
    Calls Tryd.prog 10 #[.string s] w fun e w' => e = .returned (Fd.val (Fd.of s.data.toList)) ∧ Below w.heap.size w w' := by
  obtain ⟨cap, w1, hconv, hB1, hz1, hI1⟩ := bytes_of (P := Tryd.prog) (w.alloc (.cells #[.string ⟨#[]⟩, .string ⟨#[]⟩] 23)) s 9 36 5 Tryd.underlying9 Tryd.underlying36 Tryd.underlying5
  have e0 : (w.alloc (.cells #[.string ⟨#[]⟩, .string ⟨#[]⟩] 23)).heap.size = w.heap.size + 1 := by simp
  rw [e0] at hconv hB1 hz1 hI1
  have c0 : w1.cell? ⟨w.heap.size, 0, none⟩ = some (.string ⟨#[]⟩) := (hB1.cell (p := ⟨w.heap.size, 0, none⟩) (by simp)).trans (World.cell?_alloc_mark w _ _ _ 0)
  have c1 : w1.cell? ⟨w.heap.size, 1, none⟩ = some (.string ⟨#[]⟩) := (hB1.cell (p := ⟨w.heap.size, 1, none⟩) (by simp)).trans (World.cell?_alloc_mark w _ _ _ 1)
  have f0 : w1.frozen? ⟨w.heap.size, 0, none⟩ = false := (hB1.frozen (p := ⟨w.heap.size, 0, none⟩) (by simp)).trans (World.frozen?_alloc_mark w _ _ _ _ 0)
  have f1 : w1.frozen? ⟨w.heap.size, 1, none⟩ = false := (hB1.frozen (p := ⟨w.heap.size, 1, none⟩) (by simp)).trans (World.frozen?_alloc_mark w _ _ _ _ 1)
  have HB : Hid (Below w.heap.size w w1) := ((Below.refl _ _).alloc (Nat.le_refl _) _).trans (hB1.mono (by omega))
  have HF := Hid.mk' (find_any w1 _ cap s.size s.data.toList ⟨#[58]⟩ hI1 (by rw [Array.length_toList]; rfl) (by decide) hs)
  clear hI1 hB1 e0
  go_enter Tryd.func10, Tryd.ntmps10
  go_wp2_with fail
  refine HF.out.mono ?_
  rintro e w2 ⟨r, rfl, hfi, hw⟩
  subst hw
  have hl : s.data.toList.length = s.size := by rw [Array.length_toList]; rfl
  clear HF hconv
  rcases find_one hfi with ⟨hr, hk⟩ | ⟨hr, hk⟩
  · subst hr
    have HR : Hid (Fd.of s.data.toList = Fd.bad 5) := by unfold Hid Fd.of; rw [if_pos hk]
    clear hk hl hfi
    go_wp2
    refine bodyPost_ret (v := .tuple #[.agg #[.string ⟨#[]⟩, .string ⟨#[]⟩], .int .i64 5]) (by simp [results, Tryd.results10, go_sem, c0, c1]) rfl ⟨by rw [HR.out]; rfl, ?_⟩
    exact (HB.out.setCell (Nat.le_refl _) _).setCell (Nat.le_refl _) _
  · subst hr
    have hk40 : Fd.at_ 58 s.data.toList ≤ s.data.toList.length := Fd.at_le _ _
    have hke := Fd.of s.data.toList
    clear hke
    have hof : Fd.of s.data.toList = if Ch.isToken (s.data.toList.take (Fd.at_ 58 s.data.toList)) = false then Fd.bad 6 else if 40 < Fd.at_ 58 s.data.toList then Fd.bad 4 else if Ch.isVisible (s.data.toList.drop (Fd.at_ 58 s.data.toList + 1)) = false then Fd.bad 3
      else ⟨s.data.toList.take (Fd.at_ 58 s.data.toList), Lib.trimS (s.data.toList.drop (Fd.at_ 58 s.data.toList + 1)) Ch.ws, 0⟩ := by
      conv => lhs; unfold Fd.of
      rw [if_neg (by omega)]
    rw [hl] at hk
    clear hk40 hl hfi
    generalize Fd.at_ 58 s.data.toList = k at hof hk
    have e1 : (s.extract 0 k).data.toList = s.data.toList.take k := by rw [Lib.extract_data]; simp
    have e2 : (s.extract (k + 1) s.size).data.toList = s.data.toList.drop (k + 1) := Lib.extract_to_end s (k + 1)
    rw [← e1, ← e2] at hof
    have z1 : (s.extract 0 k).size ≤ maxLen := by simp [maxLen]; omega
    have z2 : (s.extract (k + 1) s.size).size ≤ maxLen := by simp [maxLen]; omega
    have HT := Hid.mk' (tokenText_any (s.extract 0 k) w2 z1)
    have HV := Hid.mk' (seenText_any (s.extract (k + 1) s.size) w2 z2)
    have HTr := Hid.mk' (fun W => trimmed_any (s.extract (k + 1) s.size) W z2)
    clear e1 e2 z1 z2
    have b1 : (k : Int) + 1 ≤ s.size := by omega
    have b2 : (k : Int) ≤ s.size := by omega
    have HO := Hid.mk' hof
    clear hof
    cases ht : Ch.isToken (s.extract 0 k).data.toList
    · rw [ht] at HT
      have HR : Hid (Fd.of s.data.toList = Fd.bad 6) := by have := HO.out; rw [if_pos ht] at this; exact this
      clear HO ht HV HTr
      go_wp2_with fail
      refine HT.out.mono ?_
      rintro e w3 ⟨rfl, hw⟩
      subst hw
      go_wp2
      refine bodyPost_ret (v := .tuple #[.agg #[.string ⟨#[]⟩, .string ⟨#[]⟩], .int .i64 6]) (by simp [results, Tryd.results10, go_sem, c0, c1]) rfl ⟨by rw [HR.out]; rfl, ?_⟩
      exact (HB.out.setCell (Nat.le_refl _) _).setCell (Nat.le_refl _) _
    · rw [ht] at HT
      have h6 := HO.out
      rw [if_neg (by rw [ht]; simp)] at h6
      have HO6 := Hid.mk' h6
      clear HO ht h6
      by_cases h40 : 40 < k
      · have HR : Hid (Fd.of s.data.toList = Fd.bad 4) := by have := HO6.out; rw [if_pos h40] at this; exact this
        clear HO6 HV HTr
        go_wp2_with fail
        refine HT.out.mono ?_
        rintro e w3 ⟨rfl, hw⟩
        subst hw
        go_wp2
        refine bodyPost_ret (v := .tuple #[.agg #[.string ⟨#[]⟩, .string ⟨#[]⟩], .int .i64 4]) (by simp [results, Tryd.results10, go_sem, c0, c1]) rfl ⟨by rw [HR.out]; rfl, ?_⟩
        exact (HB.out.setCell (Nat.le_refl _) _).setCell (Nat.le_refl _) _
      · have h4 := HO6.out
        rw [if_neg h40] at h4
        have HO4 := Hid.mk' h4
        clear HO6 h4
        have t40 : decide ((k : Int) > 40) = false := by rw [decide_eq_false_iff_not]; omega
        cases hv : Ch.isVisible (s.extract (k + 1) s.size).data.toList
        · rw [hv] at HV
          have HR : Hid (Fd.of s.data.toList = Fd.bad 3) := by have := HO4.out; rw [if_pos hv] at this; exact this
          clear HO4 hv HTr
          go_wp2_with fail
          refine HT.out.mono ?_
          rintro e w3 ⟨rfl, hw⟩
          subst hw
          go_wp2_with fail
          refine HV.out.mono ?_
          rintro e w3 ⟨rfl, hw⟩
          subst hw
          go_wp2
          refine bodyPost_ret (v := .tuple #[.agg #[.string ⟨#[]⟩, .string ⟨#[]⟩], .int .i64 3]) (by simp [results, Tryd.results10, go_sem, c0, c1]) rfl ⟨by rw [HR.out]; rfl, ?_⟩
          exact (HB.out.setCell (Nat.le_refl _) _).setCell (Nat.le_refl _) _
        · rw [hv] at HV
          have h3 := HO4.out
          rw [if_neg (by rw [hv]; simp)] at h3
          have HR := Hid.mk' h3
          clear HO4 hv h3
          have HN : Hid ((s.extract 0 k) = ⟨(s.extract 0 k).data.toList.toArray⟩) := by unfold Hid; rfl
          generalize (Lib.trimS (s.extract (k + 1) s.size).data.toList Ch.ws) = tv at HTr HR
          have b3 : IntKind.i64.wrap ((k : Int) + 1) = (k : Int) + 1 := wrap_id (by omega) (by omega)
          have b4 : (0 : Int) ≤ (k : Int) + 1 := by omega
          have b5 : ((k : Int) + 1).toNat = k + 1 := by omega
          go_wp2_with fail
          refine HT.out.mono ?_
          rintro e w3 ⟨rfl, hw⟩
          subst hw
          go_wp2_with fail
          refine HV.out.mono ?_
          rintro e w3 ⟨rfl, hw⟩
          subst hw
          go_wp2
          go_region_held3 (fun _ => True) (trivial) (first | (go_at_call 32; refine (HTr.out _).mono ?_; rintro e w4 ⟨rfl, rfl⟩))
          all_goals
            go_wp2
            refine bodyPost_ret (v := .tuple #[.agg #[.string (s.extract 0 k), .string ⟨tv.toArray⟩], .int .i64 0]) (by simp [results, Tryd.results10, go_sem, c0, c1]) rfl ⟨by rw [HR.out]; rfl, ?_⟩
            exact ((HB.out.trans (below_drew _ _)).setCell (Nat.le_refl _) _).setCell (Nat.le_refl _) _
end Go.Proofs.YtnacbfeijakipabDoor

/- Package chars, walked: capital. -/
namespace Go.Proofs.YtnacbfeijakipabDoor
open Go.RowKit

set_option maxHeartbeats 400000 in
theorem capital_any (c : Int) (w : World) :
    Calls Tryd.prog 50 #[.int .u8 c] w fun e w' => e = .returned (.bool (Ch.capital c)) ∧ w' = w := by
  go_enter Tryd.func50, Tryd.ntmps50
  go_wp2
  all_goals go_ret
  all_goals refine ⟨ret_bool ?_, rfl⟩
  all_goals (simp [Ch.capital]; try omega)
end Go.Proofs.YtnacbfeijakipabDoor
