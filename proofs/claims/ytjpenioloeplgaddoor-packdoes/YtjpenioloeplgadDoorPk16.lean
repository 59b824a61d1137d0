/- Small texts, one behind the other: PmFnd, PmTxA. -/
import Derived.Test.YtjpenioloeplgadDoorPk11
import Derived.Test.YtjpenioloeplgadDoorPk15
import Derived.Test.YtjpenioloeplgadDoorPk4
import Derived.Test.YtjpenioloeplgadDoorPk6
import Derived.Test.YtjpenioloeplgadDoorPk2
import Derived.Test.YtjpenioloeplgadDoorPk12
/- Package params, walked: find, by a closure. -/
namespace Go.Proofs.YtjpenioloeplgadDoor
open Go.RowKit

/-- where the first parameter of that name stands -/
def ParIs (l : List (ByteArray × ByteArray)) (nm : ByteArray) (r : Int) : Prop :=
  (r = -1 ∧ ∀ p ∈ l, p.1.data.toList ≠ nm.data.toList) ∨ ∃ k, ∃ h : k < l.length, r = k ∧ l[k].1.data.toList = nm.data.toList ∧ ∀ p ∈ l.take k, p.1.data.toList ≠ nm.data.toList

theorem findOne_any (n v nm : ByteArray) (b : Nat) (w : World) (hc : w.cell? ⟨b, 0, none⟩ = some (.string nm)) :
    Calls Tryd.prog 78 #[.agg #[.string n, .string v], .pointer (some ⟨b, 0, none⟩)] w fun e w' => e = .returned (.bool (decide (n.data.toList = nm.data.toList))) ∧ w' = w.alloc (.cells #[.string n, .string v] 38) := by
  have hst := same_text n nm
  have hb : b < w.heap.size := World.block_lt_of_cell? w _ hc
  have hc' : (w.alloc (.cells #[.string n, .string v] 38)).cell? ⟨b, 0, none⟩ = some (.string nm) := by
    rw [((Below.refl w.heap.size w).alloc (Nat.le_refl _) _).cell (p := ⟨b, 0, none⟩) hb]; exact hc
  generalize decide (n.data.toList = nm.data.toList) = t at hst
  go_enter Tryd.func78, Tryd.ntmps78
  go_wp2
  go_ret
  exact ⟨by rw [← hst]; rfl, rfl⟩

set_option maxHeartbeats 1600000 in
theorem indexFunc_any (l : List (ByteArray × ByteArray)) (nm : ByteArray) (ao : Option Addr) (cap n b : Nat) (w : World) (hl : IsV w ao cap n (pairV l)) (hn : l.length = n) (hN : n ≤ 1000000) (hc : w.cell? ⟨b, 0, none⟩ = some (.string nm)) :
    Calls Tryd.prog 77 #[.slice ao n cap, .func (.func 78) #[] #[.pointer (some ⟨b, 0, none⟩)]] w fun e w' => ∃ r : Int, e = .returned (.int .i64 r) ∧ ParIs l nm r ∧ Below w.heap.size w w' := by
  subst hn
  have H := Hid.mk' hl
  have HC := Hid.mk' hc
  have hcap := hl.1
  have hb : b < w.heap.size := World.block_lt_of_cell? w _ hc
  clear hl hc
  go_enter Tryd.func77, Tryd.ntmps77
  go_wp2
  go_loopw [8] (fun t wr => ∃ k : Nat, k ≤ l.length ∧ t = .int .i64 k ∧ Below w.heap.size w wr ∧ ∀ p ∈ l.take k, p.1.data.toList ≠ nm.data.toList) (fun t _ => l.length - (intOf t).toNat)
  case atStart => exact ⟨0, Nat.zero_le _, rfl, Below.refl _ _, fun p hp => by simp at hp⟩
  case round =>
    obtain ⟨k, hk, rfl, hB, hno⟩ := hrel
    have HB := Hid.mk' hB
    have HN := Hid.mk' hno
    clear hB hno
    by_cases hlt : k < l.length
    · obtain ⟨bb, oo, rfl, hcs⟩ := (H.out.stay HB.out).lit (by rw [pairV_length]; omega)
      have hc0 := hcs _ _ (pairV_at l k hlt).1
      have hc1 : wr.cell? ⟨bb, oo + k * 2 + 1, none⟩ = some (.string l[k].2) := by
        have := hcs _ _ (pairV_at l k hlt).2
        rwa [← Nat.add_assoc] at this
      clear hcs
      have hlt' : (k : Int) < l.length := by omega
      have HT : Hid (l.take (k + 1) = l.take k ++ [l[k]]) := List.take_succ_eq_append_getElem hlt
      have HF := Hid.mk' (findOne_any l[k].1 l[k].2 nm b wr (by rw [HB.out.cell (p := ⟨b, 0, none⟩) hb]; exact HC.out))
      have HB2 : Hid (Below w.heap.size w (wr.alloc (.cells #[.string l[k].1, .string l[k].2] 38))) := HB.out.alloc HB.out.size _
      by_cases he : l[k].1.data.toList = nm.data.toList
      · rw [decide_eq_true he] at HF
        have HR : Hid (ParIs l nm k) := Or.inr ⟨k, hlt, rfl, he, HN.out⟩
        clear he HN HT
        generalize l[k] = p at *
        go_wp2_with fail
        refine HF.out.mono ?_
        rintro e w1 ⟨rfl, hw⟩
        have HB3 : Hid (Below w.heap.size w w1) := by rw [hw]; exact HB2.out
        clear hw HB2
        go_wp2
        go_ret
        exact ⟨k, rfl, HR.out, HB3.out⟩
      · rw [decide_eq_false he] at HF
        have HE := Hid.mk' he
        clear he
        generalize l[k] = p at *
        go_wp2_with fail
        refine HF.out.mono ?_
        rintro e w1 ⟨rfl, hw⟩
        have HB3 : Hid (Below w.heap.size w w1) := by rw [hw]; exact HB2.out
        clear hw HB2
        go_wp2
        go_roundw
        case rel =>
          refine ⟨k + 1, by omega, by go_num, HB3.out, fun r hr => ?_⟩
          rw [HT.out, List.mem_append] at hr
          rcases hr with hr | hr
          · exact HN.out r hr
          · rw [List.mem_singleton] at hr; subst hr; exact HE.out
        case measure => simp [intOf]; omega
    · obtain rfl : k = l.length := by omega
      have HR : Hid (ParIs l nm (-1)) := Or.inl ⟨rfl, fun p hp => HN.out p (by rw [List.take_length]; exact hp)⟩
      clear HN
      go_wp2
      go_ret
      exact ⟨-1, rfl, HR.out, HB.out⟩

set_option maxHeartbeats 800000 in
theorem findR_any (l : List (ByteArray × ByteArray)) (nm : ByteArray) (ao : Option Addr) (cap n : Nat) (w : World) (hl : IsV w ao cap n (pairV l)) (hn : l.length = n) (hN : n ≤ 1000000) :
    Calls Tryd.prog 60 #[.slice ao n cap, .string nm] w fun e w' => ∃ r : Int, e = .returned (.int .i64 r) ∧ ParIs l nm r ∧ Below w.heap.size w w' := by
  have hB : Below w.heap.size w (w.alloc (.cells #[.string nm] 9)) := (Below.refl _ _).alloc (Nat.le_refl _) _
  have HI := Hid.mk' (indexFunc_any l nm ao cap n w.heap.size (w.alloc (.cells #[.string nm] 9)) (hl.stay hB) hn hN (World.cell?_alloc_mark w _ _ _ 0))
  have HB := Hid.mk' hB
  have hmf : ∀ (fn : Fn) (first cap : Array Value) (w : World), (Instr.makeFunc fn first cap).run Tryd.prog w = .ok (.func fn first cap) w := fun _ _ _ _ => rfl
  clear hl hB
  go_enter Tryd.func60, Tryd.ntmps60
  go_wp2_with fail
  refine HI.out.mono ?_
  rintro e w1 ⟨r, rfl, hf, hb⟩
  have HF := Hid.mk' hf
  have HB1 := Hid.mk' (then_ HB.out hb)
  clear hf hb
  go_wp2
  go_ret
  exact ⟨r, rfl, HF.out, HB1.out⟩

end Go.Proofs.YtjpenioloeplgadDoor

/- Package params, walked: isSmall, isWord, check, Get. -/
namespace Go.Proofs.YtjpenioloeplgadDoor
open Go.RowKit

set_option maxHeartbeats 400000 in
theorem isSmall_any (s : ByteArray) (w : World) (hs : s.size ≤ maxLen) :
    Calls Tryd.prog 38 #[.string s] w fun e w' => e = .returned (.bool (decide (Ch.lower s.data.toList = s.data.toList))) ∧ Below w.heap.size w w' := by
  have HL := Hid.mk' (lower_any s w hs)
  have hst := same_text ⟨(Ch.lower s.data.toList).toArray⟩ s
  have hlo : (decide ((⟨(Ch.lower s.data.toList).toArray⟩ : ByteArray).data.toList = s.data.toList)) = decide (Ch.lower s.data.toList = s.data.toList) := rfl
  rw [hlo] at hst
  clear hlo
  generalize (⟨(Ch.lower s.data.toList).toArray⟩ : ByteArray) = lw at *
  generalize decide (Ch.lower s.data.toList = s.data.toList) = t at *
  go_enter Tryd.func38, Tryd.ntmps38
  go_wp2_with fail
  refine HL.out.mono ?_
  rintro e w1 ⟨rfl, hb⟩
  go_wp2
  go_ret
  exact ⟨rfl, hb⟩

/-- one token, or two with a stroke between them -/
def Pm.wordTwo (wd : List UInt8) : Bool := if Fd.at_ 47 wd = wd.length then Ch.isToken wd else Ch.isToken (wd.take (Fd.at_ 47 wd)) && Ch.isToken (wd.drop (Fd.at_ 47 wd + 1))
theorem Pm.wordOk_two (wd : List UInt8) : Pm.wordOk wd = (decide (Ch.lower wd = wd) && Pm.wordTwo wd) := rfl

set_option maxHeartbeats 800000 in
theorem isWord_any (s : ByteArray) (w : World) (hs : s.size ≤ 2000) :
    Calls Tryd.prog 37 #[.string s] w fun e w' => e = .returned (.bool (Pm.wordTwo s.data.toList)) ∧ ∃ n, w' = w.drewN n := by
  have HC := Hid.mk' (cut_one s 47 w (by unfold maxLen; omega))
  have hl : s.data.toList.length = s.size := by rw [Array.length_toList]; rfl
  unfold Fd.cutV at HC
  by_cases h0 : Fd.at_ 47 s.data.toList = s.size
  · rw [if_pos h0] at HC
    have HR : Hid (Pm.wordTwo s.data.toList = Ch.isToken s.data.toList) := by unfold Hid Pm.wordTwo; rw [if_pos (by rw [hl]; exact h0)]
    have HT := Hid.mk' (fun W => isToken_any s W (by unfold maxLen; omega))
    clear h0 hl
    cases ht : Ch.isToken s.data.toList
    all_goals
      rw [ht] at HT HR
      clear ht
      go_enter Tryd.func37, Tryd.ntmps37
      go_wp2_with fail
      refine HC.out.mono ?_
      rintro e w1 ⟨rfl, n, hw⟩
      have HW := Hid.mk' hw
      clear hw
      go_wp2_with fail
      refine (HT.out _).mono ?_
      rintro e w2 ⟨rfl, hw2⟩
      subst hw2
      go_wp2
      go_ret
      exact ⟨ret_bool (by rw [HR.out]), n, HW.out⟩
  · rw [if_neg h0] at HC
    have hk := Fd.at_le 47 s.data.toList
    rw [hl] at hk
    have hlt : Fd.at_ 47 s.data.toList < s.size := by omega
    have HR : Hid (Pm.wordTwo s.data.toList = (Ch.isToken (s.extract 0 (Fd.at_ 47 s.data.toList)).data.toList && Ch.isToken (s.extract (Fd.at_ 47 s.data.toList + 1) s.size).data.toList)) := by
      unfold Hid Pm.wordTwo
      rw [if_neg (by rw [hl]; exact h0), Lib.extract_to_end s (Fd.at_ 47 s.data.toList + 1), Lib.extract_data]; simp
    clear h0 hl hk
    generalize Fd.at_ 47 s.data.toList = k at *
    have HT1 := Hid.mk' (fun W => isToken_any (s.extract 0 k) W (by simp [maxLen]; omega))
    have HT2 := Hid.mk' (fun W => isToken_any (s.extract (k + 1) s.size) W (by simp [maxLen]; omega))
    generalize s.extract 0 k = x at *
    generalize s.extract (k + 1) s.size = y at *
    cases ht : Ch.isToken x.data.toList
    · rw [ht] at HT1 HR
      clear ht
      go_enter Tryd.func37, Tryd.ntmps37
      go_wp2_with fail
      refine HC.out.mono ?_
      rintro e w1 ⟨rfl, n, hw⟩
      have HW := Hid.mk' hw
      clear hw
      go_wp2_with fail
      refine (HT1.out _).mono ?_
      rintro e w2 ⟨rfl, hw2⟩
      subst hw2
      go_wp2
      go_ret
      exact ⟨ret_bool (by rw [HR.out]; rfl), n, HW.out⟩
    · rw [ht] at HT1 HR
      clear ht
      generalize Ch.isToken y.data.toList = t at *
      go_enter Tryd.func37, Tryd.ntmps37
      go_wp2_with fail
      refine HC.out.mono ?_
      rintro e w1 ⟨rfl, n, hw⟩
      have HW := Hid.mk' hw
      clear hw
      go_wp2_with fail
      refine (HT1.out _).mono ?_
      rintro e w2 ⟨rfl, hw2⟩
      subst hw2
      go_wp2_with fail
      refine (HT2.out _).mono ?_
      rintro e w3 ⟨rfl, hw3⟩
      subst hw3
      go_wp2
      go_ret
      exact ⟨ret_bool (by rw [HR.out]; rfl), n, HW.out⟩

/-- why a parameter has no text behind others -/
def Pm.chk (n v : List UInt8) (seen : List Pm.Par) : Nat :=
  if Ch.isToken n = false ∨ Ch.lower n ≠ n then 6 else if (seen.any fun q => q.1 == n) = true then 9 else if Ch.isVisible v = false then 3 else 0
theorem chk_6 {n v : List UInt8} {seen : List Pm.Par} (h : Ch.isToken n = false ∨ Ch.lower n ≠ n) : Pm.chk n v seen = 6 := by unfold Pm.chk; rw [if_pos h]

set_option maxHeartbeats 1600000 in
theorem check_any (n v : ByteArray) (l : List (ByteArray × ByteArray)) (ao : Option Addr) (cap k : Nat) (w : World) (hl : IsV w ao cap k (pairV l)) (hn : l.length = k) (hk : k ≤ 1000000) (hnz : n.size ≤ 2000) (hvz : v.size ≤ 9000) :
    Calls Tryd.prog 39 #[.agg #[.string n, .string v], .slice ao k cap] w fun e w' => e = .returned (.int .i64 (Pm.chk n.data.toList v.data.toList (parL l) : Nat)) ∧ Below w.heap.size w w' := by
  have HT := Hid.mk' (fun W => isToken_any n W (by unfold maxLen; omega))
  have HS := Hid.mk' (fun W => isSmall_any n W (by unfold maxLen; omega))
  have HV := Hid.mk' (fun W => isVisible_any v W (by unfold maxLen; omega))
  have hB : Below w.heap.size w (w.alloc (.cells #[.string n, .string v] 38)) := (Below.refl _ _).alloc (Nat.le_refl _) _
  have HB := Hid.mk' hB
  have R0 : Hid ((w.alloc (.cells #[.string n, .string v] 38)).heap[w.heap.size]? = some (.cells #[.string n, .string v] 38 (0, 0))) := heap_alloc_new w _
  have HL := Hid.mk' hl
  clear hl hB
  cases ht : Ch.isToken n.data.toList
  · rw [ht] at HT
    have HR := Hid.mk' (chk_6 (v := v.data.toList) (seen := parL l) (Or.inl ht))
    clear ht
    go_enter Tryd.func39, Tryd.ntmps39
    go_wp2_with fail
    refine (HT.out _).mono ?_
    rintro e w1 ⟨rfl, hw⟩
    subst hw
    go_wp2
    go_ret
    exact ⟨by rw [HR.out]; rfl, HB.out⟩
  · rw [ht] at HT
    by_cases hlo : Ch.lower n.data.toList = n.data.toList
    · rw [decide_eq_true hlo] at HS
      have hR : Pm.chk n.data.toList v.data.toList (parL l) = if ((parL l).any fun q => q.1 == n.data.toList) = true then 9 else if Ch.isVisible v.data.toList = false then 3 else 0 := by
        unfold Pm.chk; rw [if_neg (by rw [ht]; simp [hlo])]
      have HR := Hid.mk' hR
      clear ht hlo hR
      go_enter Tryd.func39, Tryd.ntmps39
      go_wp2_with fail
      refine (HT.out _).mono ?_
      rintro e w1 ⟨rfl, hw⟩
      subst hw
      go_wp2_with fail
      refine (HS.out _).mono ?_
      rintro e w2 ⟨rfl, b2⟩
      have B2 := Hid.mk' (then_ HB.out b2)
      have R2 := Hid.mk' ((b2.block _ (Array.getElem?_eq_some_iff.1 R0.out).1).trans R0.out)
      have L2 := Hid.mk' (HL.out.stay B2.out)
      have c0 : w2.cell? ⟨w.heap.size, 0, none⟩ = some (.string n) := cell_of_row w2 _ 0 _ _ _ R2.out
      clear b2
      go_wp2_with fail
      refine (findR_any l n ao cap k w2 L2.out hn hk).mono ?_
      rintro e w3 ⟨r, rfl, hf, b3⟩
      have B3 := Hid.mk' (then_ B2.out b3)
      have R3 := Hid.mk' ((b3.block _ (Array.getElem?_eq_some_iff.1 R2.out).1).trans R2.out)
      have c1 : w3.cell? ⟨w.heap.size, 1, none⟩ = some (.string v) := cell_of_row w3 _ 1 _ _ _ R3.out
      clear b3 c0
      rcases hf with ⟨rfl, hno⟩ | ⟨j, hj, rfl, he, _⟩
      · have hR := HR.out
        rw [if_neg (by rw [parL_none hno]; simp)] at hR
        clear hno HR
        cases hv : Ch.isVisible v.data.toList
        · rw [hv] at HV
          rw [if_pos hv] at hR
          have HR := Hid.mk' hR
          clear hR hv
          go_wp2_with fail
          refine (HV.out _).mono ?_
          rintro e w4 ⟨rfl, hw⟩
          subst hw
          go_wp2
          go_ret
          exact ⟨by rw [HR.out]; rfl, B3.out⟩
        · rw [hv] at HV
          rw [if_neg (by rw [hv]; simp)] at hR
          have HR := Hid.mk' hR
          clear hR hv
          go_wp2_with fail
          refine (HV.out _).mono ?_
          rintro e w4 ⟨rfl, hw⟩
          subst hw
          go_wp2
          go_ret
          exact ⟨by rw [HR.out]; rfl, B3.out⟩
      · have hR := HR.out
        rw [if_pos (parL_any hj he)] at hR
        have HR := Hid.mk' hR
        have t0 : decide ((j : Int) ≥ 0) = true := by rw [decide_eq_true_eq]; omega
        clear he hR
        go_wp2
        go_ret
        exact ⟨by rw [HR.out]; rfl, B3.out⟩
    · rw [decide_eq_false hlo] at HS
      have HR := Hid.mk' (chk_6 (v := v.data.toList) (seen := parL l) (Or.inr hlo))
      clear ht hlo
      go_enter Tryd.func39, Tryd.ntmps39
      go_wp2_with fail
      refine (HT.out _).mono ?_
      rintro e w1 ⟨rfl, hw⟩
      subst hw
      go_wp2_with fail
      refine (HS.out _).mono ?_
      rintro e w2 ⟨rfl, b2⟩
      have B2 := Hid.mk' (then_ HB.out b2)
      clear b2
      go_wp2
      go_ret
      exact ⟨by rw [HR.out]; rfl, B2.out⟩
end Go.Proofs.YtjpenioloeplgadDoor
