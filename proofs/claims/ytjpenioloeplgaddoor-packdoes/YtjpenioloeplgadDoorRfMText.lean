/- The document's own answer, walked: MediaText. -/
import Derived.Test.YtjpenioloeplgadDoorRfMTxA
import Derived.Test.YtjpenioloeplgadDoorPk13
import Derived.Test.YtjpenioloeplgadDoorPk12
namespace Go.Proofs.YtjpenioloeplgadDoor
open Go.RowKit

theorem list_at' (s : ByteArray) (k : Nat) (h : k < s.size) : s.data.toList[k]'(by rw [Array.length_toList]; exact h) = s[k] := by simp [ByteArray.getElem_eq_getElem_data]

set_option maxRecDepth 100000 in
set_option maxHeartbeats 4000000 in
theorem mediaText_any (wd : ByteArray) (l : List (ByteArray × ByteArray)) (ao : Option Addr) (cap n : Nat) (w : World) (hl : IsV w ao cap n (pairV l)) (hn : l.length = n) (hN : n ≤ 1000000) (hwz : wd.size ≤ 2000) (hpz : ∀ p ∈ l, p.1.size ≤ 2000 ∧ p.2.size ≤ 9000) :
    Calls Tryd.prog 15 #[.agg #[.string wd, .slice ao n cap]] w fun e w' => MTxt (Pm.text wd.data.toList (parL l)) e ∧ Below w.heap.size w w' := by
  subst hn
  have H := Hid.mk' hl
  have HZ := Hid.mk' hpz
  have hc := hl.1
  clear hl hpz
  obtain ⟨cap1, w1, hconv, hB1, hz1, hI1⟩ := bytes_of (P := Tryd.prog) (w.alloc (.cells #[.string wd, .slice ao l.length cap] 41)) wd 9 25 5 Tryd.underlying9 Tryd.underlying25 Tryd.underlying5
  have HB1 := Hid.mk' ((BoxM.start w wd ao l.length cap).keep hB1)
  have e0 : (w.alloc (.cells #[.string wd, .slice ao l.length cap] 41)).heap.size = w.heap.size + 1 := by simp
  rw [e0] at hconv hB1 hz1 hI1
  obtain ⟨c0, c1⟩ := HB1.out.cells
  have hwl : wd.data.toList.length = wd.size := by rw [Array.length_toList]; rfl
  have HF := Hid.mk' (find_any w1 _ cap1 wd.size wd.data.toList ⟨#[47]⟩ hI1 hwl (by decide) (by omega))
  have HSm := Hid.mk' (fun W => small_any wd W hwz)
  have hst := same_text ⟨(Ch.lower wd.data.toList).toArray⟩ wd
  have HWL := Hid.mk' hwl
  clear hI1 hB1 e0 hz1 hwl
  go_enter Tryd.func15, Tryd.ntmps15
  go_wp2_with fail
  refine HF.out.mono ?_
  rintro e w2 ⟨r, rfl, hfi, hw⟩
  subst hw
  clear HF hconv
  have hlo : (decide ((⟨(Ch.lower wd.data.toList).toArray⟩ : ByteArray).data.toList = wd.data.toList)) = decide (Ch.lower wd.data.toList = wd.data.toList) := rfl
  rw [hlo] at hst
  clear hlo
  generalize (⟨(Ch.lower wd.data.toList).toArray⟩ : ByteArray) = lw at *
  go_upto_region 2 with fail
  go_cut [5] (fun t wd1 => t = .bool (decide (Ch.lower wd.data.toList = wd.data.toList)) ∧ BoxM w wd ao l.length cap wd1)
  case first =>
    go_region_held3 (fun w' => w'.cell? ⟨w.heap.size, 0, none⟩ = some (.string wd)) (go_keep) (first | (go_at_call 27; refine (HSm.out _).mono ?_; rintro e w4 ⟨rfl, q4, rfl⟩))
    all_goals
      go_wp2
      go_meet
      exact ⟨rfl, HB1.out.drewN _⟩
  case rest =>
    obtain ⟨rfl, hB⟩ := hcut
    clear HB1 HSm hst c0 c1
    have HB := Hid.mk' hB
    clear hB
    obtain ⟨c0, c1⟩ := HB.out.cells
    generalize hlo : decide (Ch.lower wd.data.toList = wd.data.toList) = lo
    have HLo := Hid.mk' hlo
    clear hlo
    have HFi := Hid.mk' hfi
    clear hfi
    go_upto_if 22 with fail
    go_cut [5] (fun t wd1 => t = .bool (Pm.wordOk wd.data.toList) ∧ BoxM w wd ao l.length cap wd1)
    case first =>
      rcases find_one HFi.out with ⟨hr, hk⟩ | ⟨hr, hk⟩
      · subst hr
        have t22 : decide ((-1 : Int) < 0) = true := rfl
        cases lo
        · have HW : Hid (Pm.wordOk wd.data.toList = false) := by unfold Hid Pm.wordOk; rw [HLo.out]; rfl
          clear HFi
          go_wp2
          go_meet
          exact ⟨by rw [HW.out], HB.out⟩
        · have HW : Hid (Pm.wordOk wd.data.toList = Ch.isToken wd.data.toList) := by unfold Hid Pm.wordOk; rw [HLo.out, if_pos hk]; rfl
          have HT := Hid.mk' (tokenText_any wd wc (by unfold maxLen; omega))
          clear HFi hk
          go_wp2_with fail
          refine HT.out.mono ?_
          rintro e w3 ⟨rfl, hw⟩
          subst hw
          go_wp2
          go_meet
          exact ⟨by rw [HW.out], HB.out⟩
      · subst hr
        have t22 : decide ((Fd.at_ 47 wd.data.toList : Int) < 0) = false := by rw [decide_eq_false_iff_not]; omega
        cases lo
        · have HW : Hid (Pm.wordOk wd.data.toList = false) := by unfold Hid Pm.wordOk; rw [HLo.out]; rfl
          clear HFi
          go_wp2
          go_meet
          exact ⟨by rw [HW.out], HB.out⟩
        · have HW : Hid (Pm.wordOk wd.data.toList = (Ch.isToken (wd.data.toList.take (Fd.at_ 47 wd.data.toList)) && Ch.isToken (wd.data.toList.drop (Fd.at_ 47 wd.data.toList + 1)))) := by unfold Hid Pm.wordOk; rw [HLo.out, if_neg (by omega)]; rfl
          rw [HWL.out] at hk
          clear HFi
          generalize Fd.at_ 47 wd.data.toList = k at *
          have x1 : (wd.extract 0 k).data.toList = wd.data.toList.take k := by rw [Lib.extract_data]; simp
          have x2 : (wd.extract (k + 1) wd.size).data.toList = wd.data.toList.drop (k + 1) := Lib.extract_to_end wd (k + 1)
          rw [← x1, ← x2] at HW
          have HT1 := Hid.mk' (tokenText_any (wd.extract 0 k) wc (by simp [maxLen]; omega))
          have HT2 := Hid.mk' (tokenText_any (wd.extract (k + 1) wd.size) wc (by simp [maxLen]; omega))
          clear x1 x2
          generalize Ch.isToken (wd.extract (k + 1) wd.size).data.toList = tb at HT2 HW
          have b1 : (k : Int) + 1 ≤ wd.size := by omega
          have b2 : (k : Int) ≤ wd.size := by omega
          cases hta : Ch.isToken (wd.extract 0 k).data.toList
          · rw [hta] at HT1 HW
            clear hta
            go_wp2_with fail
            refine HT1.out.mono ?_
            rintro e w3 ⟨rfl, hw⟩
            subst hw
            go_wp2
            go_meet
            exact ⟨by rw [HW.out]; rfl, HB.out⟩
          · rw [hta] at HT1 HW
            clear hta
            go_wp2_with fail
            refine HT1.out.mono ?_
            rintro e w3 ⟨rfl, hw⟩
            subst hw
            go_wp2_with fail
            refine HT2.out.mono ?_
            rintro e w3 ⟨rfl, hw⟩
            subst hw
            go_wp2
            go_meet
            exact ⟨by rw [HW.out]; rfl, HB.out⟩
    case rest =>
      obtain ⟨rfl, hB⟩ := hcut
      clear HB HLo HFi c0 c1
      have HB := Hid.mk' hB
      clear hB
      obtain ⟨c0, c1⟩ := HB.out.cells
      cases hwo : Pm.wordOk wd.data.toList
      · have HR : Hid (Pm.text wd.data.toList (parL l) = .inl 5) := by unfold Hid Pm.text; rw [if_pos hwo]
        clear hwo
        go_wp2
        go_ret2
        exact ⟨MTxt.bad (c := 5) HR.out, HB.out.below⟩
      · by_cases h8 : 8 < l.length
        · have t8 : decide ((l.length : Int) > 8) = true := by rw [decide_eq_true_eq]; omega
          have HR : Hid (Pm.text wd.data.toList (parL l) = .inl 8) := by unfold Hid Pm.text; rw [if_neg (by rw [hwo]; simp), parL_length, if_pos h8]
          clear hwo
          go_wp2
          go_ret2
          exact ⟨MTxt.bad (c := 8) HR.out, HB.out.below⟩
        · have t8 : decide ((l.length : Int) > 8) = false := by rw [decide_eq_false_iff_not]; omega
          have HT0 : Hid (Pm.text wd.data.toList (parL l) = Pm.txt wd.data.toList [] (parL l)) := by unfold Hid Pm.text; rw [if_neg (by rw [hwo]; simp), parL_length, if_neg h8]
          clear hwo
          go_wp2
          go_loopw [6, 7] (fun vs vi wr => ∃ (k : Nat) (x : ByteArray), k ≤ l.length ∧ vi = .int .i64 k ∧ vs = .string x ∧ BoxM w wd ao l.length cap wr ∧ x.size ≤ 9000 + k * 27005 ∧ Pm.text wd.data.toList (parL l) = Pm.txt x.data.toList ((parL l).take k) ((parL l).drop k)) (fun _ vi _ => l.length - (intOf vi).toNat)
          case atStart => exact ⟨0, wd, Nat.zero_le _, rfl, rfl, HB.out, by omega, HT0.out⟩
          case round =>
            clear HB HT0 c0 c1
            obtain ⟨k, x, hk, rfl, rfl, hB, hxz, hT⟩ := hrel
            have HB := Hid.mk' hB
            have HT := Hid.mk' hT
            clear hB hT
            obtain ⟨c0, c1⟩ := HB.out.cells
            by_cases hkl : k < l.length
            · have hkp : k < (parL l).length := by rw [parL_length]; exact hkl
              have hT := HT.out
              rw [Pm.txt_at _ _ _ hkp] at hT
              have hpk : (parL l)[k] = (l[k].1.data.toList, l[k].2.data.toList) := by simp [parL]
              rw [hpk] at hT
              have htk : (parL l).take k = parL (l.take k) := by unfold parL; rw [List.map_take]
              rw [htk] at hT
              simp only [] at hT
              obtain ⟨bb, oo, rfl, hcs⟩ := (H.out.stay HB.out.below).lit (by rw [pairV_length]; omega)
              have hcn := hcs _ _ (pairV_at l k hkl).1
              have hcv := hcs _ _ (pairV_at l k hkl).2
              rw [← Nat.add_assoc] at hcv
              have HCs := Hid.mk' hcs
              have hkl' : (k : Int) < l.length := by omega
              have hz := HZ.out l[k] (List.getElem_mem hkl)
              have HT := Hid.mk' hT
              have HLk : Hid (l[k] = l[k]) := rfl
              clear hT hpk htk hcs HLk
              generalize hpe : l[k] = p at *
              clear hpe
              have HP := Hid.mk' (BoxP.start HB.out p.1 p.2)
              go_upto_region 15 with fail
              go_cut [76] (fun t wd1 => t = .bool (decide (Ch.isToken p.1.data.toList = false ∨ Ch.lower p.1.data.toList ≠ p.1.data.toList)) ∧ BoxP w wd (some ⟨bb, oo, none⟩) l.length cap wr.heap.size p.1 p.2 wd1)
              case first =>
                obtain ⟨p0, p1⟩ := HP.out.cells
                have HTk := Hid.mk' (fun W => tokenText_any p.1 W (by unfold maxLen; omega))
                have HSm := Hid.mk' (fun W => small_any p.1 W hz.1)
                have hst := same_text ⟨(Ch.lower p.1.data.toList).toArray⟩ p.1
                cases htk : Ch.isToken p.1.data.toList
                · have HD : Hid (decide (Ch.isToken p.1.data.toList = false ∨ Ch.lower p.1.data.toList ≠ p.1.data.toList) = true) := by unfold Hid; rw [htk]; simp
                  rw [htk] at HTk
                  clear HSm hst htk
                  go_quiet ((go_at_call 28; exact Calls.quiet_of_same (HTk.out _)))
                  all_goals
                    go_wp2
                    go_meet
                    exact ⟨by rw [HD.out], HP.out.drewN _⟩
                · rw [htk] at HTk
                  have HD : Hid (decide (Ch.isToken p.1.data.toList = false ∨ Ch.lower p.1.data.toList ≠ p.1.data.toList) = !((⟨(Ch.lower p.1.data.toList).toArray⟩ : ByteArray).toList == p.1.toList)) := by
                    unfold Hid
                    rw [hst]
                    show _ = !(decide (Ch.lower p.1.data.toList = p.1.data.toList))
                    rw [htk]
                    by_cases e : Ch.lower p.1.data.toList = p.1.data.toList <;> simp [e]
                  clear hst htk
                  generalize (⟨(Ch.lower p.1.data.toList).toArray⟩ : ByteArray) = lp at HSm HD
                  go_quiet ((first | (go_at_call 28; exact Calls.quiet_of_same (HTk.out _)) | (go_at_call 27; exact Calls.quiet_of (HSm.out _))))
                  all_goals
                    go_wp2
                    go_meet
                    exact ⟨by rw [HD.out], HP.out.drewN _⟩
              case rest =>
                obtain ⟨rfl, hP⟩ := hcut
                clear HP HB c0 c1
                have HP := Hid.mk' hP
                clear hP
                obtain ⟨c0, c1⟩ := HP.out.box.cells
                obtain ⟨p0, p1⟩ := HP.out.cells
                generalize wr.heap.size = q at *
                by_cases hbn : Ch.isToken p.1.data.toList = false ∨ Ch.lower p.1.data.toList ≠ p.1.data.toList
                · have HR : Hid (Pm.text wd.data.toList (parL l) = .inl 6) := by have := HT.out; rw [if_pos hbn] at this; exact this
                  rw [decide_eq_true hbn]
                  clear hbn HT
                  go_wp2
                  go_ret2
                  exact ⟨MTxt.bad (c := 6) HR.out, HP.out.box.below⟩
                · have hT := HT.out
                  rw [if_neg hbn] at hT
                  rw [decide_eq_false hbn]
                  have HT2 := Hid.mk' hT
                  clear hbn hT HT
                  go_wp2
                  go_loopw [9] (fun t wr => ∃ j : Nat, j ≤ k ∧ t = .int .i64 j ∧ BoxP w wd (some ⟨bb, oo, none⟩) l.length cap q p.1 p.2 wr ∧ ∀ r ∈ l.take j, r.1.data.toList ≠ p.1.data.toList) (fun t _ => k - (intOf t).toNat)
                  case atStart => exact ⟨0, Nat.zero_le _, rfl, HP.out, fun r hr => by simp at hr⟩
                  case round =>
                    clear HP c0 c1 p0 p1
                    obtain ⟨j, hj, rfl, hP, hno⟩ := hrel
                    have HP := Hid.mk' hP
                    have HNo := Hid.mk' hno
                    clear hP hno
                    obtain ⟨c0, c1⟩ := HP.out.box.cells
                    obtain ⟨p0, p1⟩ := HP.out.cells
                    by_cases hjk : j < k
                    · skip
                      have hjl : j < l.length := by omega
                      have hjk' : (j : Int) < k := by omega
                      have hjl' : (j : Int) < l.length := by omega
                      have hcj : wr.cell? ⟨bb, oo + j * 2, none⟩ = some (.string l[j].1) := by
                        have h1 := (H.out.stay HP.out.box.below).cell (pairV_at l j hjl).1
                        rwa [Addr.add_lit] at h1
                      have hx := same_text l[j].1 p.1
                      have HTj : Hid (l.take (j + 1) = l.take j ++ [l[j]]) := List.take_succ_eq_append_getElem hjl
                      by_cases he : l[j].1.data.toList = p.1.data.toList
                      · rw [decide_eq_true he] at hx
                        have HR : Hid (Pm.text wd.data.toList (parL l) = .inl 9) := by
                          have := HT2.out
                          rw [if_pos (parL_any (ps := l.take k) (k := j) (by rw [List.length_take]; omega) (by rw [List.getElem_take]; exact he))] at this
                          exact this
                        clear he HT2
                        generalize l[j] = r at *
                        go_wp2
                        go_quiet (fail)
                        go_wp2
                        go_ret2
                        exact ⟨MTxt.bad (c := 9) HR.out, (HP.out.drewN _).box.below⟩
                      · rw [decide_eq_false he] at hx
                        have HE := Hid.mk' he
                        clear he
                        generalize l[j] = r at *
                        go_wp2
                        go_quiet (fail)
                        go_wp2
                        go_roundw
                        case rel =>
                          refine ⟨j + 1, by omega, by go_num, HP.out.drewN _, fun y hy => ?_⟩
                          rw [HTj.out, List.mem_append] at hy
                          rcases hy with hy | hy
                          · exact HNo.out y hy
                          · rw [List.mem_singleton] at hy; subst hy; exact HE.out
                        case measure => simp [intOf]; omega
                    · obtain rfl : k = j := by omega
                      have hT := HT2.out
                      rw [if_neg (by rw [parL_none HNo.out]; simp)] at hT
                      have HT3 := Hid.mk' hT
                      clear hT HT2
                      have HSe := Hid.mk' (seenText_any p.2 wr (by unfold maxLen; omega))
                      have HTv := Hid.mk' (tokenText_any p.2 wr (by unfold maxLen; omega))
                      cases hvi : Ch.isVisible p.2.data.toList
                      · rw [hvi] at HSe
                        have HR : Hid (Pm.text wd.data.toList (parL l) = .inl 3) := by have := HT3.out; rw [if_pos hvi] at this; exact this
                        clear hvi HT3
                        go_wp2_with fail
                        refine HSe.out.mono ?_
                        rintro e w3 ⟨rfl, hw⟩
                        subst hw
                        go_wp2
                        go_ret2
                        exact ⟨MTxt.bad (c := 3) HR.out, HP.out.box.below⟩
                      · rw [hvi] at HSe
                        have hT := HT3.out
                        rw [if_neg (by rw [hvi]; simp)] at hT
                        have HT4 := Hid.mk' hT
                        clear hT hvi HT3
                        have hol := Pm.one_length (p.1.data.toList, p.2.data.toList)
                        have hn1 : p.1.data.toList.length = p.1.size := by rw [Array.length_toList]; rfl
                        have hn2 : p.2.data.toList.length = p.2.size := by rw [Array.length_toList]; rfl
                        simp only [hn1, hn2] at hol
                        have HFin : Hid (∀ (y : ByteArray) (W : World), y.data.toList = x.data.toList ++ Pm.one (p.1.data.toList, p.2.data.toList) → BoxM w wd (some ⟨bb, oo, none⟩) l.length cap W → ∃ (k' : Nat) (x' : ByteArray), k' ≤ l.length ∧ (Value.int .i64 ((k : Int) + 1) = .int .i64 k') ∧ Value.string y = .string x' ∧ BoxM w wd (some ⟨bb, oo, none⟩) l.length cap W ∧ x'.size ≤ 9000 + k' * 27005 ∧ Pm.text wd.data.toList (parL l) = Pm.txt x'.data.toList ((parL l).take k') ((parL l).drop k')) := by
                          intro y W hy hW
                          refine ⟨k + 1, y, by omega, by go_num, rfl, hW, ?_, by rw [hy]; exact HT4.out⟩
                          have h1 := congrArg List.length hy
                          rw [List.length_append] at h1
                          have h2 : y.data.toList.length = y.size := by rw [Array.length_toList]; rfl
                          have h3 : x.data.toList.length = x.size := by rw [Array.length_toList]; rfl
                          omega
                        have hs1 : (⟨#[59, 32]⟩ : ByteArray).size = 2 := rfl
                        have hs2 : (⟨#[61]⟩ : ByteArray).size = 1 := rfl
                        have hs3 : (⟨#[34]⟩ : ByteArray).size = 1 := rfl
                        cases htv : Ch.isToken p.2.data.toList
                        · rw [htv] at HTv
                          have HOne : Hid (Pm.one (p.1.data.toList, p.2.data.toList) = [59, 32] ++ p.1.data.toList ++ [61] ++ ([34] ++ Pm.esc p.2.data.toList ++ [34])) := by
                            unfold Hid Pm.one; rw [if_neg (by rw [htv]; simp)]
                          clear htv
                          go_wp2_with fail
                          refine HSe.out.mono ?_
                          rintro e w3 ⟨rfl, hw⟩
                          subst hw
                          go_wp2_with fail
                          refine HTv.out.mono ?_
                          rintro e w3 ⟨rfl, hw⟩
                          subst hw
                          have HY : Hid ((x ++ (⟨#[59, 32]⟩ ++ p.1 ++ ⟨#[61]⟩) ++ ⟨#[34]⟩ : ByteArray).data.toList = x.data.toList ++ ([59, 32] ++ p.1.data.toList ++ [61] ++ [34])) := by
                            unfold Hid
                            rw [Ch.data_append, Ch.data_append, Ch.data_append, Ch.data_append]; simp
                          have hyz : (x ++ (⟨#[59, 32]⟩ ++ p.1 ++ ⟨#[61]⟩) ++ ⟨#[34]⟩ : ByteArray).size ≤ x.size + 2004 := by
                            rw [ByteArray.size_append, ByteArray.size_append, ByteArray.size_append, ByteArray.size_append, hs1, hs2, hs3]; omega
                          go_wp2
                          generalize (x ++ (⟨#[59, 32]⟩ ++ p.1 ++ ⟨#[61]⟩) ++ ⟨#[34]⟩ : ByteArray) = y at *
                          go_loopw [6, 10] (fun vs vi wr => ∃ (c : Nat) (z : ByteArray), c ≤ p.2.size ∧ vi = .int .i64 c ∧ vs = .string z ∧ BoxP w wd (some ⟨bb, oo, none⟩) l.length cap q p.1 p.2 wr ∧ z.data.toList = y.data.toList ++ Pm.esc (p.2.data.toList.take c) ∧ z.size ≤ y.size + 2 * c) (fun _ vi _ => p.2.size - (intOf vi).toNat)
                          case atStart => exact ⟨0, y, Nat.zero_le _, rfl, rfl, HP.out, by simp [Pm.esc], by omega⟩
                          case round =>
                            clear HP c0 c1 p0 p1
                            obtain ⟨c, z, hcz, rfl, rfl, hP, hz1, hzz⟩ := hrel
                            have HP := Hid.mk' hP
                            have HZ1 := Hid.mk' hz1
                            clear hP hz1
                            obtain ⟨p0, p1⟩ := HP.out.cells
                            by_cases hcl : c < p.2.size
                            · skip
                              have hat := list_at' p.2 c hcl
                              have HTk : Hid (p.2.data.toList.take (c + 1) = p.2.data.toList.take c ++ [p.2[c]]) := by
                                unfold Hid
                                rw [List.take_succ_eq_append_getElem (show c < p.2.data.toList.length by rw [hn2]; exact hcl), hat]
                              have HX := Hid.mk' (Ch.one_at p.2 c hcl)
                              have hxz : (p.2.extract c (c + 1)).size ≤ 1 := by simp; omega
                              have hcl' : (c : Int) < p.2.size := by omega
                              have e1 : (c : Int) + 1 ≤ p.2.size := by omega
                              have hs4 : (⟨#[92]⟩ : ByteArray).size = 1 := rfl
                              clear hat
                              go_upto_region 31 with fail
                              go_cut [128] (fun t wd1 => t = .bool (decide (p.2[c] = 34 ∨ p.2[c] = 92)) ∧ BoxP w wd (some ⟨bb, oo, none⟩) l.length cap q p.1 p.2 wd1)
                              case first =>
                                by_cases h34 : p.2[c] = 34
                                · have t34 : ((p.2[c].toNat : Int) == 34) = true := by rw [h34]; rfl
                                  have HD : Hid (decide (p.2[c] = 34 ∨ p.2[c] = 92) = true) := by unfold Hid; rw [decide_eq_true_eq]; exact Or.inl h34
                                  clear h34 HTk HX
                                  go_wp2
                                  go_meet
                                  exact ⟨by rw [HD.out], HP.out⟩
                                · have t34 : ((p.2[c].toNat : Int) == 34) = false := byte_ne' h34
                                  by_cases h92 : p.2[c] = 92
                                  · have t92 : ((p.2[c].toNat : Int) == 92) = true := by rw [h92]; rfl
                                    have HD : Hid (decide (p.2[c] = 34 ∨ p.2[c] = 92) = true) := by unfold Hid; rw [decide_eq_true_eq]; exact Or.inr h92
                                    clear h34 h92 HTk HX
                                    go_wp2
                                    go_meet
                                    exact ⟨by rw [HD.out] <;> exact congrArg Value.bool t92, HP.out⟩
                                  · have t92 : ((p.2[c].toNat : Int) == 92) = false := byte_ne' h92
                                    have HD : Hid (decide (p.2[c] = 34 ∨ p.2[c] = 92) = false) := by unfold Hid; rw [decide_eq_false_iff_not]; rintro (e | e) <;> contradiction
                                    clear h34 h92 HTk HX
                                    go_wp2
                                    go_meet
                                    exact ⟨by rw [HD.out] <;> exact congrArg Value.bool t92, HP.out⟩
                              case rest =>
                                obtain ⟨rfl, hP⟩ := hcut
                                clear HP p0 p1
                                have HP := Hid.mk' hP
                                clear hP
                                obtain ⟨p0, p1⟩ := HP.out.cells
                                by_cases hb : p.2[c] = 34 ∨ p.2[c] = 92
                                · rw [decide_eq_true hb]
                                  have HZ2 : Hid ((z ++ ⟨#[92]⟩ ++ p.2.extract c (c + 1) : ByteArray).data.toList = y.data.toList ++ Pm.esc (p.2.data.toList.take (c + 1)) ∧ (z ++ ⟨#[92]⟩ ++ p.2.extract c (c + 1) : ByteArray).size ≤ y.size + 2 * (c + 1)) := by
                                    refine ⟨?_, ?_⟩
                                    · rw [Ch.data_append, Ch.data_append, HX.out, HZ1.out, HTk.out, Pm.esc_snoc]
                                      unfold Pm.escB
                                      rw [if_pos hb]
                                      simp
                                    · rw [ByteArray.size_append, ByteArray.size_append, hs4]; omega
                                  clear hb HTk HX HZ1
                                  go_wp2
                                  go_roundw
                                  case rel => exact ⟨c + 1, z ++ ⟨#[92]⟩ ++ p.2.extract c (c + 1), by omega, by go_num, rfl, HP.out, HZ2.out.1, HZ2.out.2⟩
                                  case measure => simp [intOf]; omega
                                · rw [decide_eq_false hb]
                                  have HZ2 : Hid ((z ++ p.2.extract c (c + 1) : ByteArray).data.toList = y.data.toList ++ Pm.esc (p.2.data.toList.take (c + 1)) ∧ (z ++ p.2.extract c (c + 1) : ByteArray).size ≤ y.size + 2 * (c + 1)) := by
                                    refine ⟨?_, ?_⟩
                                    · rw [Ch.data_append, HX.out, HZ1.out, HTk.out, Pm.esc_snoc]
                                      unfold Pm.escB
                                      rw [if_neg hb]
                                      simp
                                    · rw [ByteArray.size_append]; omega
                                  clear hb HTk HX HZ1
                                  go_wp2
                                  go_roundw
                                  case rel => exact ⟨c + 1, z ++ p.2.extract c (c + 1), by omega, by go_num, rfl, HP.out, HZ2.out.1, HZ2.out.2⟩
                                  case measure => simp [intOf]; omega
                            · obtain rfl : c = p.2.size := by omega
                              have HFy : Hid ((z ++ ⟨#[34]⟩ : ByteArray).data.toList = x.data.toList ++ Pm.one (p.1.data.toList, p.2.data.toList)) := by
                                unfold Hid
                                rw [Ch.data_append, HZ1.out, HOne.out, HY.out, List.take_of_length_le (by rw [hn2]; exact Nat.le_refl _)]
                                simp
                              go_wp2
                              go_roundw
                              case rel => exact HFin.out _ _ HFy.out HP.out.box
                              case measure => simp [intOf]; omega
                        · rw [htv] at HTv
                          have HOne : Hid (Pm.one (p.1.data.toList, p.2.data.toList) = [59, 32] ++ p.1.data.toList ++ [61] ++ p.2.data.toList) := by
                            unfold Hid Pm.one; rw [if_pos (by exact htv)]
                          clear htv
                          go_wp2_with fail
                          refine HSe.out.mono ?_
                          rintro e w3 ⟨rfl, hw⟩
                          subst hw
                          go_wp2_with fail
                          refine HTv.out.mono ?_
                          rintro e w3 ⟨rfl, hw⟩
                          subst hw
                          have HFy : Hid ((x ++ (⟨#[59, 32]⟩ ++ p.1 ++ ⟨#[61]⟩) ++ p.2 : ByteArray).data.toList = x.data.toList ++ Pm.one (p.1.data.toList, p.2.data.toList)) := by
                            unfold Hid
                            rw [Ch.data_append, Ch.data_append, Ch.data_append, Ch.data_append, HOne.out]; simp
                          go_wp2
                          go_roundw
                          case rel => exact HFin.out _ _ HFy.out HP.out.box
                          case measure => simp [intOf]; omega
            · obtain rfl : k = l.length := by omega
              have HR : Hid (Pm.text wd.data.toList (parL l) = .inr x.data.toList) := by
                have := HT.out
                rw [← parL_length l, Pm.txt_end] at this
                exact this
              go_wp2
              go_ret2
              exact ⟨MTxt.good HR.out, HB.out.below⟩
end Go.Proofs.YtjpenioloeplgadDoor
