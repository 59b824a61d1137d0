/- The document's own answer, walked: LineOf. -/
import Derived.Test.YtemgjebgncmglaaPlainL
import Derived.Test.YtemgjebgncmglaaRfSeen
import Derived.Test.YtemgjebgncmglaaMem
namespace Go.Proofs.Ytemgjebgncmglaa
open Go.RowKit

/-- what is told, as a value -/
def Ln.val (t : Ln.Told) : Value := .tuple #[.string ⟨t.text.toArray⟩, .int .i64 (t.size : Int), .bool t.ended, .int .i64 (t.code : Int)]
theorem ret_line {v : Value} {t u : Ln.Told} (hu : u = t) (h : v = Ln.val t) : Ending.returned v = .returned (Ln.val u) := by rw [h, hu]

set_option maxHeartbeats 1600000 in
theorem lineOf_any (l : List UInt8) (ao : Option Addr) (cap n : Nat) (w : World) (hl : IsB w ao cap l) (hn : l.length = n) (hN : n ≤ 1000000) :
    Calls Try.prog 18 #[.slice ao n cap] w fun e w' => e = .returned (Ln.val (Ln.of l)) ∧ w' = w := by
  subst hn
  have H := Hid.mk' hl
  have hcap := hl.1
  clear hl
  go_enter Try.func18, Try.ntmps18
  go_wp2
  go_loop [6] (fun t => ∃ i : Nat, i ≤ l.length ∧ t = .int .i64 i ∧ Ln.of l = Ln.go l i (l.drop i)) (fun t => l.length - (intOf t).toNat)
  case atStart => exact ⟨0, Nat.zero_le _, rfl, rfl⟩
  case round =>
    obtain ⟨i, hi, rfl, hg⟩ := hrel
    by_cases hlt : i < l.length
    · obtain ⟨bb, oo, rfl, hcs⟩ := H.out.lit (by omega)
      have HCs := Hid.mk' hcs
      clear hcs
      have hcell := HCs.out i hlt
      have hlt' : (i : Int) < l.length := by omega
      rw [Ln.go_at l i hlt] at hg
      have hb := l[i].toNat_lt
      by_cases h13 : l[i] = 13
      · rw [if_pos h13] at hg
        have t13 : ((l[i].toNat : Int) == 13) = true := by rw [h13]; rfl
        by_cases h2 : i + 1 < l.length
        · rw [dif_pos h2] at hg
          have te : ((i : Int) + 1 == l.length) = false := by rw [beq_eq_false_iff_ne]; omega
          have hcell2 := HCs.out (i + 1) h2
          have b1 : (i : Int) + 1 < l.length := by omega
          by_cases h10 : l[i + 1] = 10
          · rw [if_pos h10] at hg
            have t10 : ((l[i + 1].toNat : Int) != 10) = false := by rw [h10]; rfl
            have hq := (H.out.first i (by omega)).str (P := Try.prog) 22 9 5 Try.underlying22 Try.underlying5 Try.underlying9
            rw [List.length_take, Nat.min_eq_left (by omega)] at hq
            have b2 : (i : Int) ≤ cap := by omega
            have HG := Hid.mk' hg
            clear hg h13 h10
            generalize l[i] = c at *
            generalize l[i + 1] = d at *
            go_wp2
            (try simp only [Exit.inBlock, Exit.then])
            refine bodyPost_ret (results_tmp4 rfl _ _ _) rfl ?_
            exact ⟨ret_line HG.out rfl, rfl⟩
          · rw [if_neg h10] at hg
            have t10 : ((l[i + 1].toNat : Int) != 10) = true := byte_ne h10
            have HG := Hid.mk' hg
            clear hg h13 h10
            generalize l[i] = c at *
            generalize l[i + 1] = d at *
            go_wp2
            (try simp only [Exit.inBlock, Exit.then])
            refine bodyPost_ret (results_tmp4 rfl _ _ _) rfl ?_
            exact ⟨ret_line HG.out rfl, rfl⟩
        · rw [dif_neg h2] at hg
          have te : ((i : Int) + 1 == l.length) = true := by rw [beq_iff_eq]; omega
          have HG := Hid.mk' hg
          clear hg h13
          generalize l[i] = c at *
          go_wp2
          (try simp only [Exit.inBlock, Exit.then])
          refine bodyPost_ret (results_tmp4 rfl _ _ _) rfl ?_
          exact ⟨ret_line HG.out rfl, rfl⟩
      · rw [if_neg h13] at hg
        have t13 : ((l[i].toNat : Int) == 13) = false := byte_ne' h13
        by_cases h10 : l[i] = 10
        · rw [if_pos h10] at hg
          have t10 : ((l[i].toNat : Int) == 10) = true := by rw [h10]; rfl
          have HG := Hid.mk' hg
          clear hg h13 h10
          generalize l[i] = c at *
          go_wp2
          (try simp only [Exit.inBlock, Exit.then])
          refine bodyPost_ret (results_tmp4 rfl _ _ _) rfl ?_
          exact ⟨ret_line HG.out rfl, rfl⟩
        · rw [if_neg h10] at hg
          have t10 : ((l[i].toNat : Int) == 10) = false := byte_ne' h10
          have HS := Hid.mk' (isSeen_any (l[i].toNat : Int) w)
          cases hv : Ch.visible l[i].toNat
          · rw [hv] at HS
            rw [if_pos hv] at hg
            have HG := Hid.mk' hg
            clear hg h13 h10 hv
            generalize l[i] = c at *
            go_wp2_with fail
            refine HS.out.mono ?_
            rintro e w' ⟨rfl, hw⟩
            subst hw
            go_wp2
            (try simp only [Exit.inBlock, Exit.then])
            refine bodyPost_ret (results_tmp4 rfl _ _ _) rfl ?_
            exact ⟨ret_line HG.out rfl, rfl⟩
          · rw [hv] at HS
            rw [if_neg (by rw [hv]; simp)] at hg
            by_cases h200 : i = 200
            · rw [if_pos h200] at hg
              subst h200
              have HG := Hid.mk' hg
              clear hg h13 h10 hv
              generalize l[200] = c at *
              go_wp2_with fail
              refine HS.out.mono ?_
              rintro e w' ⟨rfl, hw⟩
              subst hw
              go_wp2
              (try simp only [Exit.inBlock, Exit.then])
              refine bodyPost_ret (results_tmp4 rfl _ _ _) rfl ?_
              exact ⟨ret_line HG.out rfl, rfl⟩
            · rw [if_neg h200] at hg
              have t200 : ((i : Int) == 200) = false := by rw [beq_eq_false_iff_ne]; omega
              have HG := Hid.mk' hg
              clear hg h13 h10 hv
              generalize l[i] = c at *
              go_wp2_with fail
              refine HS.out.mono ?_
              rintro e w' ⟨rfl, hw⟩
              subst hw
              go_wp2
              go_round
              case rel => exact ⟨i + 1, by omega, by go_num, HG.out⟩
              case measure => simp [intOf]; omega
    · rw [Ln.go_end l i (by omega)] at hg
      have HG := Hid.mk' hg
      clear hg
      obtain rfl : i = l.length := by omega
      go_wp2
      (try simp only [Exit.inBlock, Exit.then])
      refine bodyPost_ret (results_tmp4 rfl _ _ _) rfl ?_
      exact ⟨ret_line HG.out rfl, rfl⟩
end Go.Proofs.Ytemgjebgncmglaa
