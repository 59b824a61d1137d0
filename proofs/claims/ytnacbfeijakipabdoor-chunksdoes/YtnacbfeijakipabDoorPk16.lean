/- Small texts, one behind the other: RfLine, RfSmall, RfHexOf, RfHexNo. -/
import Derived.Test.YtnacbfeijakipabDoorPk2
import Derived.Test.YtnacbfeijakipabDoorPk9
import Derived.Test.YtnacbfeijakipabDoorPk1
import Derived.Test.YtnacbfeijakipabDoorProg
/- The document's own answer, walked: LineOf. -/
namespace Go.Proofs.YtnacbfeijakipabDoor
open Go.RowKit

/-- what is told, as a value -/
def Ln.val (t : Ln.Told) : Value := .tuple #[.string ⟨t.text.toArray⟩, .int .i64 (t.size : Int), .bool t.ended, .int .i64 (t.code : Int)]
theorem ret_line {v : Value} {t u : Ln.Told} (hu : u = t) (h : v = Ln.val t) : Ending.returned v = .returned (Ln.val u) := by rw [h, hu]

set_option maxHeartbeats 1600000 in
theorem lineOf_any (l : List UInt8) (ao : Option Addr) (cap n : Nat) (w : World) (hl : IsB w ao cap l) (hn : l.length = n) (hN : n ≤ 1000000) :
    Calls Tryd.prog 37 #[.slice ao n cap] w fun e w' => e = .returned (Ln.val (Ln.of l)) ∧ w' = w := by
  subst hn
  have H := Hid.mk' hl
  have hcap := hl.1
  clear hl
  go_enter Tryd.func37, Tryd.ntmps37
  go_wp2
  go_loop [6] (fun t => ∃ i : Nat, i ≤ l.length ∧ t = .int .i64 i ∧ Ln.of l = Ln.go l i (l.drop i)) (fun t => l.length - (intOf t).toNat)
  case atStart => exact ⟨0, Nat.zero_le _, rfl, rfl⟩
  case round =>
    obtain ⟨i, hi, rfl, hg⟩ := hrel
    by_cases hlt : i < l.length
    · obtain ⟨bb, oo, rfl, hcs⟩ := H.out.lit (by omega)
      have HCs := Hid.mk' hcs
      clear hcs
      have hcell := HCs.out i hlt
      have hlt' : (i : Int) < l.length := by omega
      rw [Ln.go_at l i hlt] at hg
      have hb := l[i].toNat_lt
      by_cases h13 : l[i] = 13
      · rw [if_pos h13] at hg
        have t13 : ((l[i].toNat : Int) == 13) = true := by rw [h13]; rfl
        by_cases h2 : i + 1 < l.length
        · rw [dif_pos h2] at hg
          have te : ((i : Int) + 1 == l.length) = false := by rw [beq_eq_false_iff_ne]; omega
          have hcell2 := HCs.out (i + 1) h2
          have b1 : (i : Int) + 1 < l.length := by omega
          by_cases h10 : l[i + 1] = 10
          · rw [if_pos h10] at hg
            have t10 : ((l[i + 1].toNat : Int) != 10) = false := by rw [h10]; rfl
            have hq := (H.out.first i (by omega)).str (P := Tryd.prog) 36 9 5 Tryd.underlying36 Tryd.underlying5 Tryd.underlying9
            rw [List.length_take, Nat.min_eq_left (by omega)] at hq
            have b2 : (i : Int) ≤ cap := by omega
            have HG := Hid.mk' hg
            clear hg h13 h10
            generalize l[i] = c at *
            generalize l[i + 1] = d at *
            go_wp2
            (try simp only [Exit.inBlock, Exit.then])
            refine bodyPost_ret (results_tmp4 rfl _ _ _) rfl ?_
            exact ⟨ret_line HG.out rfl, rfl⟩
          · rw [if_neg h10] at hg
            have t10 : ((l[i + 1].toNat : Int) != 10) = true := byte_ne h10
            have HG := Hid.mk' hg
            clear hg h13 h10
            generalize l[i] = c at *
            generalize l[i + 1] = d at *
            go_wp2
            (try simp only [Exit.inBlock, Exit.then])
            refine bodyPost_ret (results_tmp4 rfl _ _ _) rfl ?_
            exact ⟨ret_line HG.out rfl, rfl⟩
        · rw [dif_neg h2] at hg
          have te : ((i : Int) + 1 == l.length) = true := by rw [beq_iff_eq]; omega
          have HG := Hid.mk' hg
          clear hg h13
          generalize l[i] = c at *
          go_wp2
          (try simp only [Exit.inBlock, Exit.then])
          refine bodyPost_ret (results_tmp4 rfl _ _ _) rfl ?_
          exact ⟨ret_line HG.out rfl, rfl⟩
      · rw [if_neg h13] at hg
        have t13 : ((l[i].toNat : Int) == 13) = false := byte_ne' h13
        by_cases h10 : l[i] = 10
        · rw [if_pos h10] at hg
          have t10 : ((l[i].toNat : Int) == 10) = true := by rw [h10]; rfl
          have HG := Hid.mk' hg
          clear hg h13 h10
          generalize l[i] = c at *
          go_wp2
          (try simp only [Exit.inBlock, Exit.then])
          refine bodyPost_ret (results_tmp4 rfl _ _ _) rfl ?_
          exact ⟨ret_line HG.out rfl, rfl⟩
        · rw [if_neg h10] at hg
          have t10 : ((l[i].toNat : Int) == 10) = false := byte_ne' h10
          have HS := Hid.mk' (isSeen_any (l[i].toNat : Int) w)
          cases hv : Ch.visible l[i].toNat
          · rw [hv] at HS
            rw [if_pos hv] at hg
            have HG := Hid.mk' hg
            clear hg h13 h10 hv
            generalize l[i] = c at *
            go_wp2_with fail
            refine HS.out.mono ?_
            rintro e w' ⟨rfl, hw⟩
            subst hw
            go_wp2
            (try simp only [Exit.inBlock, Exit.then])
            refine bodyPost_ret (results_tmp4 rfl _ _ _) rfl ?_
            exact ⟨ret_line HG.out rfl, rfl⟩
          · rw [hv] at HS
            rw [if_neg (by rw [hv]; simp)] at hg
            by_cases h200 : i = 200
            · rw [if_pos h200] at hg
              subst h200
              have HG := Hid.mk' hg
              clear hg h13 h10 hv
              generalize l[200] = c at *
              go_wp2_with fail
              refine HS.out.mono ?_
              rintro e w' ⟨rfl, hw⟩
              subst hw
              go_wp2
              (try simp only [Exit.inBlock, Exit.then])
              refine bodyPost_ret (results_tmp4 rfl _ _ _) rfl ?_
              exact ⟨ret_line HG.out rfl, rfl⟩
            · rw [if_neg h200] at hg
              have t200 : ((i : Int) == 200) = false := by rw [beq_eq_false_iff_ne]; omega
              have HG := Hid.mk' hg
              clear hg h13 h10 hv
              generalize l[i] = c at *
              go_wp2_with fail
              refine HS.out.mono ?_
              rintro e w' ⟨rfl, hw⟩
              subst hw
              go_wp2
              go_round
              case rel => exact ⟨i + 1, by omega, by go_num, HG.out⟩
              case measure => simp [intOf]; omega
    · rw [Ln.go_end l i (by omega)] at hg
      have HG := Hid.mk' hg
      clear hg
      obtain rfl : i = l.length := by omega
      go_wp2
      (try simp only [Exit.inBlock, Exit.then])
      refine bodyPost_ret (results_tmp4 rfl _ _ _) rfl ?_
      exact ⟨ret_line HG.out rfl, rfl⟩
end Go.Proofs.YtnacbfeijakipabDoor

/- The document's own answer, walked: Small. -/
namespace Go.Proofs.YtnacbfeijakipabDoor
open Go.RowKit

set_option maxHeartbeats 400000 in
theorem small_any (s : ByteArray) (w : World) (hs : s.size ≤ 2000) :
    Calls Tryd.prog 34 #[.string s] w fun e w' => e = .returned (.string ⟨(Ch.lower s.data.toList).toArray⟩) ∧ ∃ n, w' = w.drewN n := by
  go_enter Tryd.func34, Tryd.ntmps34
  go_wp2
  go_loopw [3, 4] (fun o i wr => ∃ k n : Nat, ∃ x : ByteArray, k ≤ s.size ∧ i = .int .i64 k ∧ o = .string x ∧ x.data.toList = Ch.lower (s.data.toList.take k) ∧ wr = w.drewN n) (fun _ i _ => s.size - (intOf i).toNat)
  case atStart => exact ⟨0, 0, ⟨#[]⟩, Nat.zero_le _, rfl, rfl, rfl, rfl⟩
  case round =>
    obtain ⟨k, n, x, hk, rfl, rfl, hx, rfl⟩ := hrel
    have hxs : x.size ≤ 2000 := by
      have := Ch.size_of_list hx
      rw [Ch.lower_length] at this
      have h2 : (s.data.toList.take k).length ≤ k := List.length_take_le _ _
      omega
    have HX : Hid (x.data.toList = Ch.lower (s.data.toList.take k)) := hx
    clear hx
    by_cases hlt : k < s.size
    · go_wp2
      go_loopw [5, 6] (fun c i wr => ∃ j n : Nat, ∃ y : ByteArray, j ≤ 26 ∧ i = .int .i64 j ∧ c = .string y ∧ y.data.toList = [Ch.lowTo s[k] j] ∧ wr = w.drewN n) (fun _ i _ => 26 - (intOf i).toNat)
      case atStart => exact ⟨0, n, _, Nat.zero_le _, rfl, rfl, by rw [Ch.one_at s k hlt, Ch.lowTo_zero], rfl⟩
      case round =>
        obtain ⟨j, n, y, hj, rfl, rfl, hy, rfl⟩ := hrel
        have hys : y.size ≤ 1 := by have := Ch.size_of_list hy; simp at this; omega
        have HY : Hid (y.data.toList = [Ch.lowTo s[k] j]) := hy
        clear hy
        by_cases hlj : j < 26
        · go_wp2
          go_quiet (fail)
          go_wp2
          · have he : (((((⟨#[65, 66, 67, 68, 69, 70, 71, 72, 73, 74, 75, 76, 77, 78, 79, 80, 81, 82, 83, 84, 85, 86, 87, 88, 89, 90]⟩ : ByteArray)[j]'hlj).toNat : Nat) : Int) == (s[k].toNat : Int)) = true := by assumption
            go_roundw
            case rel => exact ⟨j + 1, n + nq, _, by omega, by go_num, rfl, Ch.lowTo_hit _ _ hlj he, by simp [World.drewN]⟩
            case measure => simp [intOf]; omega
          · have he : (((((⟨#[65, 66, 67, 68, 69, 70, 71, 72, 73, 74, 75, 76, 77, 78, 79, 80, 81, 82, 83, 84, 85, 86, 87, 88, 89, 90]⟩ : ByteArray)[j]'hlj).toNat : Nat) : Int) == (s[k].toNat : Int)) = false := by assumption
            go_roundw
            case rel => exact ⟨j + 1, n + nq, y, by omega, by go_num, rfl, by rw [HY.out, Ch.lowTo_miss _ _ hlj he], by simp [World.drewN]⟩
            case measure => simp [intOf]; omega
        · obtain rfl : j = 26 := by omega
          go_wp2
          go_roundw
          case rel => exact ⟨k + 1, n, x ++ y, by omega, by go_num, rfl, by rw [Ch.data_append, HX.out, HY.out, Ch.take_snoc s k hlt, Ch.lower_snoc]; rfl, rfl⟩
          case measure => simp [intOf]; omega
    · go_wp2
      go_ret
      exact ⟨ret_str (Ch.str_eq (by rw [HX.out, Ch.take_all s k (by omega)])), n, rfl⟩
end Go.Proofs.YtnacbfeijakipabDoor

/- The document's own answer, walked: HexOf. -/
namespace Go.Proofs.YtnacbfeijakipabDoor
open Go.RowKit

set_option maxHeartbeats 400000 in
theorem hexOf_any (b : UInt8) (w : World) :
    Calls Tryd.prog 52 #[.int .u8 b.toNat] w fun e w' => e = .returned (.int .i64 (Ch.hex b.toNat)) ∧ Below w.heap.size w w' := by
  have hb := b.toNat_lt
  have hconv : (convert 36 9 (.slice (some ⟨w.heap.size, 0, none⟩) 1 1)).run Tryd.prog (w.alloc (.cells #[.int .u8 b.toNat] 5)) = .ok (.string ⟨#[b]⟩) (w.alloc (.cells #[.int .u8 b.toNat] 5)) :=
    run_convert_bytes_back (P := Tryd.prog) (w.alloc (.cells #[.int .u8 b.toNat] 5)) 36 9 5 ⟨w.heap.size, 0, none⟩ 1 [b] Tryd.underlying36 Tryd.underlying5 Tryd.underlying9 (fun j hj => by
      obtain rfl : j = 0 := by simp at hj; exact hj
      rw [show ((⟨w.heap.size, 0, none⟩ : Addr).add 0) = ⟨w.heap.size, 0, none⟩ from rfl, World.cell?_alloc_at _ _ _ _ rfl]
      rfl)
  have hsm := small_any ⟨#[b]⟩ (w.alloc (.cells #[.int .u8 b.toNat] 5)) (by show 1 ≤ 2000; omega)
  rw [show (⟨(Ch.lower (⟨#[b]⟩ : ByteArray).data.toList).toArray⟩ : ByteArray) = ⟨#[Ch.lowB b]⟩ from rfl] at hsm
  have hB : Below w.heap.size w (w.alloc (.cells #[.int .u8 b.toNat] 5)) := (Below.refl _ _).alloc (Nat.le_refl _) _
  go_enter Tryd.func52, Tryd.ntmps52
  go_wp2_with fail
  refine hsm.mono ?_
  rintro e w1 ⟨rfl, nd, hw1⟩
  have hB1 : Below w.heap.size w w1 := by rw [hw1]; exact ⟨hB.os, hB.tape, hB.output, hB.size, hB.block⟩
  clear hw1 hB hsm hconv
  go_wp2
  go_loop [5] (fun i => ∃ j : Nat, j ≤ 16 ∧ i = .int .i64 j ∧ ∀ m, m < j → Ch.lowB b ≠ Ch.hexs.getD m 0) (fun i => 16 - (intOf i).toNat)
  case atStart => exact ⟨0, Nat.zero_le _, rfl, fun m hm => absurd hm (Nat.not_lt_zero _)⟩
  case round =>
    obtain ⟨j, hj, rfl, hno⟩ := hrel
    have HN : Hid (∀ m, m < j → Ch.lowB b ≠ Ch.hexs.getD m 0) := hno
    clear hno
    by_cases hlt : j < 16
    · have hpe := Ch.piece_eq b j hlt
      by_cases he : Ch.lowB b = Ch.hexs.getD j 0
      · rw [decide_eq_true he] at hpe
        have HE : Hid (Ch.hex b.toNat = j) := Ch.hexs_hit b j hlt he
        clear he
        go_wp2
        go_ret
        exact ⟨ret_int HE.out.symm, hB1⟩
      · rw [decide_eq_false he] at hpe
        have HE : Hid (Ch.lowB b ≠ Ch.hexs.getD j 0) := he
        clear he
        go_wp2
        go_round
        case rel => exact ⟨j + 1, by omega, by go_num, fun m hm => by
          rcases Nat.lt_or_ge m j with h | h
          · exact HN.out m h
          · obtain rfl : m = j := by omega
            exact HE.out⟩
        case measure => simp [intOf]; omega
    · have HE : Hid (Ch.hex b.toNat = -1) := Ch.hexs_miss b (fun m hm => HN.out m (by omega))
      go_wp2
      go_ret
      exact ⟨ret_int HE.out.symm, hB1⟩
end Go.Proofs.YtnacbfeijakipabDoor

/- The document's own answer, walked: HexNumberOf. -/
namespace Go.Proofs.YtnacbfeijakipabDoor
open Go.RowKit

set_option maxHeartbeats 400000 in
theorem hexNumberOf_any (s : ByteArray) (w : World) (hs : s.size ≤ maxLen) :
    Calls Tryd.prog 38 #[.string s] w fun e w' => e = .returned (.tuple #[.int .i64 (Ch.number 16 6 s.data.toList).1, .bool (Ch.number 16 6 s.data.toList).2]) ∧ Below w.heap.size w w' := by
  unfold maxLen at hs
  by_cases h0 : s.size = 0
  · obtain rfl := Ch.empty_eq s h0
    go_enter Tryd.func38, Tryd.ntmps38
    go_wp2
    go_ret2
    exact ⟨ret_two (Ch.number_short _ _ _ (Or.inl rfl)), Below.refl _ _⟩
  · have hpos : decide ((s.size : Int) < 1) = false := decide_eq_false (by omega)
    by_cases hlong : (6 : Int) < s.size
    · have HL : Hid ((6 : Int) < s.data.toList.length) := by unfold Hid; rw [Ch.len_list]; exact hlong
      go_enter Tryd.func38, Tryd.ntmps38
      go_wp2
      go_ret2
      exact ⟨ret_two (Ch.number_short _ _ _ (Or.inr HL.out)), Below.refl _ _⟩
    · have hlg : decide ((6 : Int) < (s.size : Int)) = false := decide_eq_false hlong
      have HL : Hid ((s.data.toList.length : Int) ≤ 6) := by unfold Hid; rw [Ch.len_list]; omega
      go_enter Tryd.func38, Tryd.ntmps38
      go_wp2
      go_loopw [4, 5] (fun n i wr => ∃ k : Nat, k ≤ s.size ∧ i = .int .i64 k ∧ (s.data.toList.take k).all (Ch.dig 16) = true ∧ n = .int .i64 (Ch.numOf 16 (s.data.toList.take k)) ∧ Below w.heap.size w wr) (fun _ i _ => s.size - (intOf i).toNat)
      case atStart => exact ⟨0, Nat.zero_le _, rfl, rfl, rfl, Below.refl _ _⟩
      case round =>
        obtain ⟨k, hk, rfl, hall, rfl, hbl⟩ := hrel
        have HN : Hid ((s.data.toList.take k).all (Ch.dig 16) = true) := hall
        have hbd := Ch.numOf_bound 16 (by omega) (by omega) _ hall (by have : (s.data.toList.take k).length ≤ k := List.length_take_le _ _; omega)
        clear hall
        generalize hn : Ch.numOf 16 (s.data.toList.take k) = n at hbd
        have Hn : Hid (Ch.numOf 16 (s.data.toList.take k) = n) := hn
        clear hn
        by_cases hlt : k < s.size
        · have hb := s[k].toNat_lt
          have hx := Ch.hex_byte s[k]
          cases hd : decide (0 ≤ Ch.hex s[k].toNat)
          · have hx2 : Ch.hex s[k].toNat < 0 := by have := of_decide_eq_false hd; omega
            have HE : Hid (Ch.dig 16 s[k] = false) := by unfold Hid; rw [Ch.dig16, hd]
            clear hd
            go_wp2_with fail
            refine (hexOf_any s[k] _).mono ?_
            rintro e w1 ⟨rfl, hb1⟩
            go_wp2
            go_ret2
            exact ⟨ret_two (Ch.number_no _ _ _ (Ch.all_of_take _ s k hlt HE.out)), hbl.trans (hb1.mono hbl.size)⟩
          · have hx2 : 0 ≤ Ch.hex s[k].toNat := of_decide_eq_true hd
            have HE : Hid (Ch.dig 16 s[k] = true) := by unfold Hid; rw [Ch.dig16, hd]
            clear hd
            go_wp2_with fail
            refine (hexOf_any s[k] _).mono ?_
            rintro e w1 ⟨rfl, hb1⟩
            go_wp2_with fail
            refine (hexOf_any s[k] _).mono ?_
            rintro e w2 ⟨rfl, hb2⟩
            have hbl2 : Below w.heap.size w w2 := (hbl.trans (hb1.mono hbl.size)).trans (hb2.mono (Nat.le_trans hbl.size hb1.size))
            go_wp2
            go_roundw
            case rel => exact ⟨k + 1, by omega, by go_num, by rw [Ch.take_snoc s k hlt, Ch.all_snoc, HN.out, HE.out]; rfl, by rw [Ch.take_snoc s k hlt, Ch.numOf_snoc, Hn.out, Int.mul_comm], hbl2⟩
            case measure => simp [intOf]; omega
        · go_wp2
          go_ret2
          exact ⟨ret_two (by rw [← Hn.out, Ch.take_all s k (by omega)]; exact Ch.number_yes _ _ _ (Ch.ne_nil s (by omega)) (Int.not_lt.2 HL.out) (by rw [← HN.out, Ch.take_all s k (by omega)])), hbl⟩
end Go.Proofs.YtnacbfeijakipabDoor
