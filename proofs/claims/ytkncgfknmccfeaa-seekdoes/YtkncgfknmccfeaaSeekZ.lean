/- SeekDoes, walked. -/
import Derived.Test.YtkncgfknmccfeaaSeekY
namespace Go.Proofs.Ytkncgfknmccfeaa
open Go.RowKit

/-- what both loops keep -/
def DoesRel (w : World) (lo hi g : Nat) (m : List UInt8) (i : Nat) (vs vh : Value) (wr : World) : Prop :=
  ∃ x ao cap, vs = .slice ao x.length cap ∧ vh = .int .i64 (Sk.held m x) ∧ Two w lo hi g m (Sk.held m x) x [] ao cap none 0 wr ∧ x.length ≤ i

set_option maxRecDepth 100000 in
set_option maxHeartbeats 8000000 in
theorem does_main (m b : List UInt8) (rs : List Int) (am ab ar : Option Addr) (capm capb capr : Nat) (w : World) (hm : IsB w am capm m) (hb : IsB w ab capb b)
    (hr : ∀ j (hj : j < rs.length), ∃ a, ar = some a ∧ w.cell? (a.add j) = some (.int .i64 rs[j])) (h1 : m.length ≤ 60) (h2 : b.length ≤ 300) (h3 : rs.length ≤ 100) :
    Calls Try.prog 3 #[.slice am m.length capm, .slice ab b.length capb, .slice ar rs.length capr] w fun e w' => e = .returned (.bool true) ∧ Below w.heap.size w w' := by
  have t1 : decide ((m.length : Int) > 60) = false := by rw [decide_eq_false_iff_not]; omega
  have t2 : decide ((b.length : Int) > 300) = false := by rw [decide_eq_false_iff_not]; omega
  have t3 : decide ((rs.length : Int) > 100) = false := by rw [decide_eq_false_iff_not]; omega
  have HM := Hid.mk' hm
  have HB := Hid.mk' hb
  have HRs := Hid.mk' hr
  obtain ⟨i0, hi0, hz0, hz1, hz2⟩ := info_parts info_u8
  have Hi := Hid.mk' hi0; have Hz0 := Hid.mk' hz0; have Hz1 := Hid.mk' hz1; have Hz2 := Hid.mk' hz2
  obtain ⟨ms, hms⟩ : ∃ ms : ByteArray, ms = ⟨m.toArray⟩ := ⟨_, rfl⟩
  have HQ : Hid (∀ W, Below w.heap.size w W → (convert 22 9 (.slice am m.length capm)).run Try.prog W = .ok (.string ms) W) := fun W hW => by
    rw [hms]
    exact (HM.out.stay hW).str (P := Try.prog) 22 9 5 Try.underlying22 Try.underlying5 Try.underlying9
  have HMs : Hid (ms.data.toList = m ∧ ms.size = m.length) := by rw [hms]; exact ⟨rfl, rfl⟩
  clear hm hb hr hi0 hz0 hz1 hz2 hms
  go_enter Try.func3, Try.ntmps3
  go_wp2_with fail
  refine (begun_any _).mono ?_
  rintro e w1 ⟨rfl, hb1⟩
  have HN := Hid.mk' (new_any m am capm w1 (HM.out.stay hb1) (by omega))
  have B1 := Hid.mk' hb1
  clear hb1
  go_wp2_with fail
  refine HN.out.mono ?_
  rintro e w2 ⟨g, rfl, hS, hb2⟩
  have B2 := Hid.mk' (B1.out.trans (hb2.mono B1.out.size))
  have HR : Hid (DoesRel w w1.heap.size w2.heap.size g m 0 (.slice none 0 0) (.int .i64 0) w2) :=
    ⟨[], none, 0, rfl, by rw [Sk.held_nil]; rfl, ⟨OwnB.nil _ _ _, OwnB.nil _ _ _, apart_none _, by rw [Sk.held_nil]; exact hS, B2.out, Nat.le_refl _, B1.out.size⟩, Nat.le_refl _⟩
  clear HN hS hb2 B2 B1
  generalize w1.heap.size = lo at HR
  generalize w2.heap.size = hi at HR
  go_wp2
  go_loopw [8, 9, 10] (fun vs vh t wr => ∃ i : Nat, i ≤ b.length ∧ t = .int .i64 i ∧ DoesRel w lo hi g m i vs vh wr) (fun _ _ t _ => b.length - (intOf t).toNat)
  case atStart => exact ⟨0, Nat.zero_le _, rfl, HR.out⟩
  case round =>
    clear HR
    obtain ⟨i, hib, rfl, hD⟩ := hrel
    have HD := Hid.mk' hD
    by_cases hlt : i < b.length
    · have hlt' : (i : Int) < b.length := by omega
      obtain ⟨x, ao, cap, rfl, rfl, _⟩ := hD
      go_wp2
      go_loopw [8, 9, 11] (fun vs vh t wr => ∃ k : Nat, k ≤ rs.length ∧ t = .int .i64 k ∧ DoesRel w lo hi g m i vs vh wr) (fun _ _ t _ => rs.length - (intOf t).toNat)
      case atStart => exact ⟨0, Nat.zero_le _, rfl, HD.out⟩
      case round =>
        clear HD
        obtain ⟨k, hkr, rfl, y, aoy, capy, rfl, rfl, hT, hyi⟩ := hrel
        have HT := Hid.mk' hT
        clear hT
        have hh := Sk.held_le m y
        have hhy := Sk.held_le_len m y
        by_cases hk : k < rs.length
        · obtain ⟨a, rfl, hca⟩ := HRs.out k hk
          have hcell : wr.cell? (a.add k) = some (.int .i64 rs[k]) := (HT.out.below.cell (World.block_lt_of_cell? w _ hca)).trans hca
          have hk' : (k : Int) < rs.length := by omega
          clear hca
          generalize rs[k] = z at hcell
          by_cases hz : z = (i : Int)
          · subst hz
            have HE := Hid.mk' (Sk.held_drop m y)
            generalize Sk.held m y = h at HE hh hhy HT
            have HRe := Hid.mk' (rest_any wr.drew lo hi g m h HT.out.seek (by omega) (by omega) HT.out.size)
            have e1 : (h : Int) ≤ y.length := by omega
            have e2 : (y.length : Int) - h ≤ y.length := by omega
            have e3 : ((y.length : Int) - h).toNat = y.length - h := by omega
            have e5 : y.length - (y.length - h) = h := by omega
            have e6 : IntKind.i64.wrap ((y.length : Int) - h) = (y.length : Int) - h := wrap_id (by omega) (by omega)
            have hhm : h ≤ m.length := by omega
            by_cases he : capy = y.length - h
            · go_wp2
              go_region_held3 (fun _ => True) (trivial) (first | (go_at_call 8; refine HRe.out.mono ?_; rintro e w3 ⟨ao3, cap3, rfl, hO, hS3, hG3⟩; have HT3 := Hid.mk' ((HT.out.drewN 1).feed hS3 hG3); have HO := Hid.mk' hO; clear hO hS3 hG3) | (go_at_call 7; refine (same_rest HT3.out HO.out HE.out hhm hhy _ _ (by omega) (fun hne => absurd he hne)).mono ?_; rintro e w4 ⟨rfl, rfl⟩) | (go_at_call 9; refine (fits_any _ lo hi g m 0 HT3.out.seek).mono ?_; rintro e w4 ⟨rfl, rfl⟩))
              all_goals
                go_wp2
                go_roundw
                case rel => exact ⟨k + 1, by omega, by go_num, [], none, 0, rfl, by rw [Sk.held_nil]; rfl, by rw [Sk.held_nil]; exact HT3.out.swap.drop.swap.drop, Nat.zero_le _⟩
                case measure => simp [intOf]; omega
            · go_wp2
              go_region_held3 (fun _ => True) (trivial) (first | (go_at_call 8; refine HRe.out.mono ?_; rintro e w3 ⟨ao3, cap3, rfl, hO, hS3, hG3⟩; have HT3 := Hid.mk' ((HT.out.drewN 1).feed hS3 hG3); have HO := Hid.mk' hO; clear hO hS3 hG3) | (go_at_call 7; refine (same_rest HT3.out HO.out HE.out hhm hhy _ _ rfl (fun _ => rfl)).mono ?_; rintro e w4 ⟨rfl, rfl⟩) | (go_at_call 9; refine (fits_any _ lo hi g m 0 HT3.out.seek).mono ?_; rintro e w4 ⟨rfl, rfl⟩))
              all_goals
                go_wp2
                go_roundw
                case rel => exact ⟨k + 1, by omega, by go_num, [], none, 0, rfl, by rw [Sk.held_nil]; rfl, by rw [Sk.held_nil]; exact HT3.out.swap.drop.swap.drop, Nat.zero_le _⟩
                case measure => simp [intOf]; omega
          · have hz' : (z == (i : Int)) = false := by rw [beq_eq_false_iff_ne]; exact hz
            clear hz
            go_wp2
            go_roundw
            case rel => exact ⟨k + 1, by omega, by go_num, y, aoy, capy, rfl, rfl, HT.out, hyi⟩
            case measure => simp [intOf]; omega
        · obtain rfl : k = rs.length := by omega
          clear hkr hk
          obtain ⟨a, rfl⟩ := HB.out.some (by omega)
          obtain ⟨c, hc⟩ : ∃ c, b[i] = c := ⟨_, rfl⟩
          have HBc : Hid (∀ W, Below w.heap.size w W → W.cell? (a.add i) = some (.int .u8 (c.toNat : Int))) := fun W hW => by
            have := (HB.out.stay hW).cell i hlt
            rw [hc] at this; exact this
          clear hc
          have hcell := HBc.out wr HT.out.below
          cases hfd : Sk.found m (Sk.held m y) c
          · have HRr := Hid.mk' (Sk.held_snoc m y c hfd)
            have haf : Sk.after m (Sk.held m y) c = Sk.fit m (Sk.held m y) c := by rw [Sk.after_held, hfd]; exact HRr.out
            have HFd := Hid.mk' (fun (W : World) (hW : SeekAt W lo hi g m (Sk.held m y)) (hs : hi ≤ W.heap.size) => feed_c W lo hi g m (Sk.held m y) c c.toNat _ false _ rfl rfl hfd haf hW hh (by omega) hs)
            have HOu := Hid.mk' (Sk.out_held m y c)
            have hfl1 := Sk.fit_le m (Sk.held m y) c
            have hfl2 := Sk.fit_le' m (Sk.held m y) c
            have HSo := Hid.mk' (fun (W5 W : World) (B : Nat) (a4 : Addr) (ao5 : Option Addr) (cap4 cap5 : Nat) (hO : OwnB W5 B 5 ao5 cap5 (Sk.out m (Sk.held m y) c)) (hT : OwnB W hi 5 (some a4) cap4 (y ++ [c])) (N C : Nat) (hN : N = Sk.held m y + 1 - Sk.fit m (Sk.held m y) c) (hC : C = cap4 - (y.length - Sk.held m y)) (hw : W.heap = W5.heap) => same_out (w := W) (w4 := W5) hO hT HOu.out hhy hfl2 N C hN hC hw)
            have HFo := Hid.mk' (fun (h0 : 0 < m.length) (hl : m.length ≤ y.length + 1) => (found_drop m y c h0 hl).trans hfd)
            clear HOu hfd haf
            generalize Sk.out m (Sk.held m y) c = o at HFd HSo
            generalize Sk.fit m (Sk.held m y) c = r at HFd HSo HRr hfl1 hfl2
            generalize Sk.held m y = hd at HT HFd HSo hh hhy hfl2
            go_wp2_with (at_builtin; refine wpList_append_at rfl (.tmp 68) (.tmp 73) 22 rfl hi 5 i0 Try.underlying22 Hi.out Hz0.out Hz1.out Hz2.out rfl rfl (HT.out.alloc _).one rfl rfl (IsB.one _ c _ _) (by omega) (HT.out.alloc _).size ?_; intro ao4 cap4 w4 hA4 hG4 hat4; have HT4 := Hid.mk' ((HT.out.alloc _).fst hA4 hG4 hat4); have hcell4 := HBc.out w4 HT4.out.below; clear hA4 hG4 hat4)
            obtain ⟨a4, ha4⟩ := HT4.out.one.isB.some (by simp)
            subst ha4
            have hcap4 := HT4.out.one.isB.1
            rw [List.length_append] at hcap4
            simp only [List.length_cons, List.length_nil, Nat.zero_add] at hcap4
            refine (HFd.out _ HT4.out.seek HT4.out.size).mono ?_
            rintro e w5 ⟨ao5, cap5, rfl, hO5, hS5, hG5⟩
            have HT5 := Hid.mk' (HT4.out.feed hS5 hG5)
            have HO5 := Hid.mk' hO5
            clear hO5 hS5 hG5 hcell hcell4 HFd
            have hqm : ∀ q, (convert 22 9 (.slice am m.length capm)).run Try.prog (w5.drewN q) = .ok (.string ms) (w5.drewN q) := fun q => HQ.out _ (HT5.out.drewN q).below
            have HH := Hid.mk' (fun q => heldOf_any (w5.drewN q) (some a4) cap4 (y.length + 1) (y ++ [c]) ms (HT5.out.drewN q).one.isB (by simp) (by rw [HMs.out.2]; omega) (by omega))
            rw [HMs.out.1, HRr.out] at HH
            have HFi := Hid.mk' (fun q => fits_any (w5.drewN q) lo hi g m r (HT5.out.drewN q).seek)
            by_cases hm0 : 0 < m.length
            · have tm : decide ((m.length : Int) > 0) = true := by rw [decide_eq_true_eq]; omega
              by_cases hfl : m.length ≤ y.length + 1
              · have tn : decide ((y.length : Int) + 1 ≥ m.length) = true := by rw [decide_eq_true_eq]; omega
                have g1 : (m.length : Int) ≤ (y.length : Int) + 1 := by omega
                have g2 : (y.length : Int) + 1 - m.length ≤ (y.length : Int) + 1 := by omega
                have g3 : ((y.length : Int) + 1 - m.length).toNat = y.length + 1 - m.length := by omega
                have g4 : ¬ cap4 = y.length + 1 - m.length := by omega
                have g5 : y.length + 1 - (y.length + 1 - m.length) = m.length := by omega
                have g6 : IntKind.i64.wrap ((y.length : Int) + 1 - m.length) = (y.length : Int) + 1 - m.length := wrap_id (by omega) (by omega)
                have hqs : ∀ q, (convert 22 9 (.slice (some (a4.add (y.length + 1 - m.length))) m.length (cap4 - (y.length + 1 - m.length)))).run Try.prog (w5.drewN q) = .ok (.string ⟨((y ++ [c]).drop (y.length + 1 - m.length)).toArray⟩) (w5.drewN q) := fun q => by
                  have h := (HT5.out.drewN q).one.isB.cut (ao' := some (a4.add (y.length + 1 - m.length))) (y.length + 1 - m.length) (y.length + 1) (by omega) (by simp) (fun _ => rfl)
                  rw [g5, List.take_of_length_le (by rw [List.length_drop, List.length_append, List.length_singleton]; omega)] at h
                  have h' := h.str (P := Try.prog) 22 9 5 Try.underlying22 Try.underlying5 Try.underlying9
                  rw [List.length_drop, List.length_append, List.length_singleton, g5] at h'
                  exact h'
                have hyy : ((y ++ [c]).drop (y.length + 1 - m.length) == ms.toList) = false := by
                  rw [Lib.toList_data, HMs.out.1]; exact HFo.out hm0 hfl
                go_wp2
                go_quiet (fail)
                clear hyy hqs g1 g2 g3 g4 g5 g6
                go_wp2_with fail
                refine (HH.out _).mono ?_
                rintro e w6 ⟨rfl, q6, hw⟩
                subst hw
                clear hqm
                have k1 : (hd : Int) ≤ y.length := by omega
                have k2 : (r : Int) ≤ (hd : Int) + 1 := by omega
                go_wp2_with fail
                refine (HSo.out w5 _ _ a4 ao5 cap4 cap5 HO5.out (HT5.out.drewN _).one _ _ (by omega) rfl rfl).mono ?_
                rintro e w7 ⟨rfl, hw⟩
                subst hw
                go_wp2_with fail
                refine (HFi.out _).mono ?_
                rintro e w8 ⟨rfl, hw⟩
                subst hw
                go_wp2
                go_roundw
                case rel => exact ⟨i + 1, by omega, by go_num, y ++ [c], some a4, cap4, by rw [List.length_append]; rfl, by rw [HRr.out], by rw [HRr.out]; exact HT5.out.drewN _, by rw [List.length_append]; exact Nat.succ_le_succ hyi⟩
                case measure => simp [intOf]; omega
              · have tn : decide ((y.length : Int) + 1 ≥ m.length) = false := by rw [decide_eq_false_iff_not]; omega
                go_wp2
                go_quiet (fail)
                go_wp2_with fail
                refine (HH.out _).mono ?_
                rintro e w6 ⟨rfl, q6, hw⟩
                subst hw
                clear hqm
                have k1 : (hd : Int) ≤ y.length := by omega
                have k2 : (r : Int) ≤ (hd : Int) + 1 := by omega
                go_wp2_with fail
                refine (HSo.out w5 _ _ a4 ao5 cap4 cap5 HO5.out (HT5.out.drewN _).one _ _ (by omega) rfl rfl).mono ?_
                rintro e w7 ⟨rfl, hw⟩
                subst hw
                go_wp2_with fail
                refine (HFi.out _).mono ?_
                rintro e w8 ⟨rfl, hw⟩
                subst hw
                go_wp2
                go_roundw
                case rel => exact ⟨i + 1, by omega, by go_num, y ++ [c], some a4, cap4, by rw [List.length_append]; rfl, by rw [HRr.out], by rw [HRr.out]; exact HT5.out.drewN _, by rw [List.length_append]; exact Nat.succ_le_succ hyi⟩
                case measure => simp [intOf]; omega
            · have tm : decide ((m.length : Int) > 0) = false := by rw [decide_eq_false_iff_not]; omega
              go_wp2
              go_quiet (fail)
              go_wp2_with fail
              refine (HH.out _).mono ?_
              rintro e w6 ⟨rfl, q6, hw⟩
              subst hw
              clear hqm
              have k1 : (hd : Int) ≤ y.length := by omega
              have k2 : (r : Int) ≤ (hd : Int) + 1 := by omega
              go_wp2_with fail
              refine (HSo.out w5 _ _ a4 ao5 cap4 cap5 HO5.out (HT5.out.drewN _).one _ _ (by omega) rfl rfl).mono ?_
              rintro e w7 ⟨rfl, hw⟩
              subst hw
              go_wp2_with fail
              refine (HFi.out _).mono ?_
              rintro e w8 ⟨rfl, hw⟩
              subst hw
              go_wp2
              go_roundw
              case rel => exact ⟨i + 1, by omega, by go_num, y ++ [c], some a4, cap4, by rw [List.length_append]; rfl, by rw [HRr.out], by rw [HRr.out]; exact HT5.out.drewN _, by rw [List.length_append]; exact Nat.succ_le_succ hyi⟩
              case measure => simp [intOf]; omega
          · obtain ⟨hf1, hf2⟩ := Sk.found_fit hfd
            have hfl : m.length ≤ y.length + 1 := by
              have := ((Sk.found_iff m y c).1 hfd).2.length_le
              simpa using this
            have HFd := Hid.mk' (fun (W : World) (hW : SeekAt W lo hi g m (Sk.held m y)) (hs : hi ≤ W.heap.size) => feed_c W lo hi g m (Sk.held m y) c c.toNat _ true 0 rfl rfl hfd (by rw [Sk.after_held, hfd]; rfl) hW hh (by omega) hs)
            go_wp2_with (at_builtin; refine wpList_append_at rfl (.tmp 68) (.tmp 73) 22 rfl hi 5 i0 Try.underlying22 Hi.out Hz0.out Hz1.out Hz2.out rfl rfl (HT.out.alloc _).one rfl rfl (IsB.one _ c _ _) (by omega) (HT.out.alloc _).size ?_; intro ao4 cap4 w4 hA4 hG4 hat4; have HT4 := Hid.mk' ((HT.out.alloc _).fst hA4 hG4 hat4); have hcell4 := HBc.out w4 HT4.out.below; clear hA4 hG4 hat4)
            obtain ⟨a4, ha4⟩ := HT4.out.one.isB.some (by simp)
            subst ha4
            have hcap4 := HT4.out.one.isB.1
            rw [List.length_append] at hcap4
            simp only [List.length_cons, List.length_nil, Nat.zero_add] at hcap4
            refine (HFd.out _ HT4.out.seek HT4.out.size).mono ?_
            rintro e w5 ⟨ao5, cap5, rfl, hO5, hS5, hG5⟩
            have HT5 := Hid.mk' (HT4.out.feed hS5 hG5)
            have HO5 := Hid.mk' hO5
            clear hO5 hS5 hG5 hcell hcell4 HFd
            have tm : decide ((m.length : Int) > 0) = true := by rw [decide_eq_true_eq]; omega
            have tn : decide ((y.length : Int) + 1 ≥ m.length) = true := by rw [decide_eq_true_eq]; omega
            have hqm : ∀ q, (convert 22 9 (.slice am m.length capm)).run Try.prog (w5.drewN q) = .ok (.string ms) (w5.drewN q) := fun q => HQ.out _ (HT5.out.drewN q).below
            have g1 : (m.length : Int) ≤ (y.length : Int) + 1 := by omega
            have g2 : (y.length : Int) + 1 - m.length ≤ (y.length : Int) + 1 := by omega
            have g3 : ((y.length : Int) + 1 - m.length).toNat = y.length + 1 - m.length := by omega
            have g4 : ¬ cap4 = y.length + 1 - m.length := by omega
            have g5 : y.length + 1 - (y.length + 1 - m.length) = m.length := by omega
            have g6 : IntKind.i64.wrap ((y.length : Int) + 1 - m.length) = (y.length : Int) + 1 - m.length := wrap_id (by omega) (by omega)
            have hqs : ∀ q, (convert 22 9 (.slice (some (a4.add (y.length + 1 - m.length))) m.length (cap4 - (y.length + 1 - m.length)))).run Try.prog (w5.drewN q) = .ok (.string ⟨((y ++ [c]).drop (y.length + 1 - m.length)).toArray⟩) (w5.drewN q) := fun q => by
              have h := (HT5.out.drewN q).one.isB.cut (ao' := some (a4.add (y.length + 1 - m.length))) (y.length + 1 - m.length) (y.length + 1) (by omega) (by simp) (fun _ => rfl)
              rw [g5, List.take_of_length_le (by rw [List.length_drop, List.length_append, List.length_singleton]; omega)] at h
              have h' := h.str (P := Try.prog) 22 9 5 Try.underlying22 Try.underlying5 Try.underlying9
              rw [List.length_drop, List.length_append, List.length_singleton, g5] at h'
              exact h'
            have hyy : ((y ++ [c]).drop (y.length + 1 - m.length) == ms.toList) = true := by
              rw [Lib.toList_data, HMs.out.1, found_drop m y c hf2 hfl]; exact hfd
            have HH := Hid.mk' (fun q => heldOf_any (w5.drewN q) (some a4) cap4 (y.length + 1) (y ++ [c]) ms (HT5.out.drewN q).one.isB (by simp) (by rw [HMs.out.2]; omega) (by omega))
            generalize Sk.held ms.data.toList (y ++ [c]) = hv at HH
            have HFi := Hid.mk' (fun q => fits_any (w5.drewN q) lo hi g m 0 (HT5.out.drewN q).seek)
            have HOu := Hid.mk' (Sk.out_held m y c)
            have hfl2 := Sk.fit_le' m (Sk.held m y) c
            rw [hf1] at HOu hfl2
            have HSo := Hid.mk' (fun q (N C : Nat) (hN : N = Sk.held m y + 1 - m.length) (hC : C = cap4 - (y.length - Sk.held m y)) => same_out (w := w5.drewN q) HO5.out (HT5.out.drewN q).one HOu.out hhy hfl2 N C hN hC)
            clear HOu hfd hf1
            generalize Sk.out m (Sk.held m y) c = o at HO5 HSo
            generalize Sk.held m y = hd at HT HT4 HT5 HSo hh hhy hfl2
            go_wp2
            go_quiet (fail)
            clear hyy hqs g1 g2 g3 g4 g5 g6
            go_wp2_with fail
            refine (HH.out _).mono ?_
            rintro e w6 ⟨rfl, q6, hw⟩
            subst hw
            clear hqm
            have k1 : (hd : Int) ≤ y.length := by omega
            have k2 : (m.length : Int) ≤ (hd : Int) + 1 := by omega
            go_wp2_with fail
            refine (HSo.out _ _ _ (by omega) rfl).mono ?_
            rintro e w7 ⟨rfl, hw⟩
            subst hw
            go_wp2_with fail
            refine (HFi.out _).mono ?_
            rintro e w8 ⟨rfl, hw⟩
            subst hw
            go_wp2
            go_roundw
            case rel => exact ⟨i + 1, by omega, by go_num, [], none, 0, rfl, by rw [Sk.held_nil]; rfl, by rw [Sk.held_nil]; exact (HT5.out.drewN _).swap.drop.swap.drop, Nat.zero_le _⟩
            case measure => simp [intOf]; omega
    · go_wp2
      go_ret
      obtain ⟨_, _, _, _, _, hT, _⟩ := HD.out
      exact ⟨rfl, hT.below⟩
end Go.Proofs.Ytkncgfknmccfeaa
