/- Package forms, walked: Safe, whole. -/
import Derived.Test.YtjpenioloeplgadDoorPk14
import Derived.Deep.DeepCutAuto
namespace Go.Proofs.YtjpenioloeplgadDoor
open Go.RowKit

/-- what the loop keeps -/
structure SfRel (w : World) (g cap : Nat) (x : List UInt8) (k : Nat) (wr : World) : Prop where
  buf : Buf wr g g cap (Fm.washTo k x)
  below : Below g w wr
theorem SfRel.store {w wr : World} {g cap k : Nat} {x : List UInt8} (h : SfRel w g cap x k wr) (hk : k < x.length) (hd : Fm.dirty x[k] = true) : SfRel w g cap x (k + 1) (wr.setCell ⟨g, k, none⟩ (.int .u8 95)) := by
  obtain ⟨h1, h2⟩ := h.buf.set k 95
  have hw : Fm.wash x[k] = 95 := by unfold Fm.wash; rw [hd]; rfl
  refine ⟨by rw [Fm.washTo_succ hk, hw]; exact h1, h.below.trans (h2.below (fun i e => by omega) (Nat.le_of_lt h.buf.lt))⟩
theorem SfRel.skip {w wr : World} {g cap k : Nat} {x : List UInt8} (h : SfRel w g cap x k wr) (hk : k < x.length) (hd : Fm.dirty x[k] = false) : SfRel w g cap x (k + 1) wr := ⟨by rw [Fm.washTo_same hk hd]; exact h.buf, h.below⟩

set_option maxRecDepth 100000 in
set_option maxHeartbeats 4000000 in
theorem safe_any (s : ByteArray) (w : World) (hs : s.size ≤ 1000000) :
    Calls Tryd.prog 20 #[.string s] w fun e w' => e = .returned (.string ⟨(Fm.safe s.data.toList).toArray⟩) ∧ Below w.heap.size w w' := by
  have hl := Ch.len_list s
  have H1 := Hid.mk' (lastI_any s 47 w (by unfold maxLen; omega))
  have H2 := Hid.mk' (lastI_any s 92 w (by unfold maxLen; omega))
  go_enter Tryd.func20, Tryd.ntmps20
  go_upto_region 1 with fail
  go_cut [3] (fun v wd => ∃ p : Nat, v = .int .i64 ((p : Int) - 1) ∧ p ≤ s.size ∧ s.data.toList.drop p = Fm.tail s.data.toList ∧ wd = w)
  case first =>
    go_wp2_with fail
    refine H1.out.mono ?_
    rintro e w1 ⟨r1, rfl, hr1, hw⟩
    subst hw
    have HR1 := Hid.mk' hr1
    clear hr1 H1
    go_wp2_with fail
    refine H2.out.mono ?_
    rintro e w2 ⟨r2, rfl, hr2, hw⟩
    subst hw
    obtain ⟨q1, q2, q3⟩ := last_tail HR1.out hr2
    rw [hl] at q2
    have HQ3 := Hid.mk' q3
    clear hr2 H2 HR1 q3
    by_cases hlt : r1 < r2
    · have e : max r1 r2 = r2 := by omega
      rw [e] at HQ3 q1 q2
      go_wp2
      go_meet
      exact ⟨(r2 + 1).toNat, by rw [show (((r2 + 1).toNat : Nat) : Int) - 1 = r2 by omega], by omega, HQ3.out, rfl⟩
    · have e : max r1 r2 = r1 := by omega
      rw [e] at HQ3 q1 q2
      go_wp2
      go_meet
      exact ⟨(r1 + 1).toNat, by rw [show (((r1 + 1).toNat : Nat) : Int) - 1 = r1 by omega], by omega, HQ3.out, rfl⟩
  case rest =>
  clear H1 H2
  obtain ⟨p, rfl, hps, q3, hw⟩ := hcut
  subst hw
  have hps' : (p : Int) ≤ s.size := by omega
  have hx : (s.extract p s.size).data.toList = Fm.tail s.data.toList := by
    rw [← q3, Lib.extract_to_end]
  have hxs : (s.extract p s.size).size = (Fm.tail s.data.toList).length := Ch.size_of_list hx
  have htl : (Fm.tail s.data.toList).length ≤ s.size := by rw [← q3, List.length_drop, hl]; omega
  obtain ⟨cap, w3, hconv, hB3, hBf⟩ := buf_of (P := Tryd.prog) wc (s.extract p s.size) 9 25 5 (by rw [hxs]; unfold maxLen; omega) Tryd.underlying9 Tryd.underlying25 Tryd.underlying5
  rw [hx] at hBf
  rw [hxs] at hconv
  have HSf : Hid (Fm.safe s.data.toList = Fm.named ((Fm.undot ((Fm.tail s.data.toList).map Fm.wash)).take 40)) := rfl
  have HRel : Hid (SfRel wc wc.heap.size cap (Fm.tail s.data.toList) 0 w3) := ⟨by rw [Fm.washTo_zero]; exact hBf, hB3⟩
  clear hBf hB3 hx hxs q3
  obtain ⟨sf, hsf⟩ : ∃ sf, Fm.safe s.data.toList = sf := ⟨_, rfl⟩
  rw [hsf] at HSf
  have HSF := Hid.mk' hsf
  clear hsf
  generalize Fm.tail s.data.toList = x at *
  obtain ⟨n, hn⟩ : ∃ n, x.length = n := ⟨_, rfl⟩
  have HN := Hid.mk' hn
  rw [hn] at hconv htl
  clear hn
  have hn6 : n ≤ 1000000 := by omega
  clear htl
  go_wp2
  clear hconv
  go_loopw [19] (fun vi wr => ∃ k : Nat, k ≤ n ∧ vi = .int .i64 k ∧ SfRel wc wc.heap.size cap x k wr) (fun vi _ => n - (intOf vi).toNat)
  case atStart => exact ⟨0, Nat.zero_le _, rfl, HRel.out⟩
  case round =>
    clear HRel
    obtain ⟨k, hk, rfl, hR⟩ := hrel
    have HR := Hid.mk' hR
    clear hR
    by_cases hlt : k < n
    · have hkx : k < x.length := by rw [HN.out]; exact hlt
      have hlt' : (k : Int) < n := by omega
      have hcap : n ≤ cap := by have := HR.out.buf.le; rw [Fm.washTo_length, HN.out] at this; exact this
      have ck : wr.cell? ⟨wc.heap.size, k, none⟩ = some (.int .u8 (x[k].toNat : Int)) := by
        have h1 : k < (Fm.washTo k x).length := by rw [Fm.washTo_length]; exact hkx
        have := HR.out.buf.holds k _ (byteV_at _ k h1)
        rw [Fm.washTo_at hkx] at this
        exact this
      have fk : wr.frozen? ⟨wc.heap.size, k, none⟩ = false := (HR.out.buf.there k (by omega)).2
      have HS1 := Hid.mk' (HR.out.store hkx)
      have HS2 := Hid.mk' (HR.out.skip hkx)
      have HV := Hid.mk' (fun W => visible_any (x[k].toNat : Int) W)
      have T : ∀ d : UInt8, ((x[k].toNat : Int) == (d.toNat : Int)) = decide (x[k] = d) := fun d => by
        rw [Bool.eq_iff_iff, beq_iff_eq, decide_eq_true_eq]
        constructor
        · intro e; exact UInt8.toNat_inj.1 (by omega)
        · intro e; rw [e]
      have t9 : ((x[k].toNat : Int) == 9) = decide (x[k] = 9) := T 9
      have t34 : ((x[k].toNat : Int) == 34) = decide (x[k] = 34) := T 34
      have t58 : ((x[k].toNat : Int) == 58) = decide (x[k] = 58) := T 58
      have HD : Hid (Fm.dirty x[k] = (decide (x[k] = 9) || decide (x[k] = 34) || decide (x[k] = 58) || !Ch.visible x[k].toNat)) := by unfold Hid Fm.dirty; rfl
      clear T
      generalize x[k] = c at *
      by_cases h9 : c = 9
      · have hd : Fm.dirty c = true := by rw [HD.out, decide_eq_true h9]; rfl
        rw [decide_eq_true h9] at t9
        have HS := Hid.mk' (HS1.out hd)
        clear h9 hd HS1 HS2 HD t34 t58
        go_wp2
        go_roundw
        case rel => exact ⟨k + 1, by omega, by go_num, HS.out⟩
        case measure => simp [intOf]; omega
      · rw [decide_eq_false h9] at t9
        by_cases h34 : c = 34
        · have hd : Fm.dirty c = true := by rw [HD.out, decide_eq_true h34]; simp
          rw [decide_eq_true h34] at t34
          have HS := Hid.mk' (HS1.out hd)
          clear h9 h34 hd HS1 HS2 HD t58
          go_wp2
          go_roundw
          case rel => exact ⟨k + 1, by omega, by go_num, HS.out⟩
          case measure => simp [intOf]; omega
        · rw [decide_eq_false h34] at t34
          by_cases h58 : c = 58
          · have hd : Fm.dirty c = true := by rw [HD.out, decide_eq_true h58]; simp
            rw [decide_eq_true h58] at t58
            have HS := Hid.mk' (HS1.out hd)
            clear h9 h34 h58 hd HS1 HS2 HD
            go_wp2
            go_roundw
            case rel => exact ⟨k + 1, by omega, by go_num, HS.out⟩
            case measure => simp [intOf]; omega
          · rw [decide_eq_false h58] at t58
            rw [decide_eq_false h9, decide_eq_false h34, decide_eq_false h58] at HD
            cases hv : Ch.visible (c.toNat : Int)
            · have hd : Fm.dirty c = true := by rw [HD.out, hv]; rfl
              rw [hv] at HV
              have HS := Hid.mk' (HS1.out hd)
              clear h9 h34 h58 hd HS1 HS2 HD hv
              go_wp2_with (go_at_call 30; refine (HV.out _).mono ?_; rintro e w4 ⟨rfl, hw⟩; subst hw)
              go_roundw
              case rel => exact ⟨k + 1, by omega, by go_num, HS.out⟩
              case measure => simp [intOf]; omega
            · have hd : Fm.dirty c = false := by rw [HD.out, hv]; rfl
              rw [hv] at HV
              have HS := Hid.mk' (HS2.out hd)
              clear h9 h34 h58 hd HS1 HS2 HD hv
              go_wp2_with (go_at_call 30; refine (HV.out _).mono ?_; rintro e w4 ⟨rfl, hw⟩; subst hw)
              go_roundw
              case rel => exact ⟨k + 1, by omega, by go_num, HS.out⟩
              case measure => simp [intOf]; omega
    · obtain rfl : k = n := by omega
      have hIs : IsB wr (some ⟨wc.heap.size, 0, none⟩) cap (x.map Fm.wash) := by
        have := HR.out.buf.isB
        rw [← HN.out, Fm.washTo_all] at this
        exact this
      have HU := Hid.mk' (undotB_any wr _ cap k _ hIs (by rw [List.length_map]; exact HN.out))
      clear hIs
      have HSf2 : Hid (sf = Fm.named ((Fm.undot (x.map Fm.wash)).take 40)) := HSf.out
      have HBl := Hid.mk' HR.out.below
      clear HR HSf
      go_wp2_with fail
      refine HU.out.mono ?_
      rintro e w4 ⟨ao', cap', n', rfl, hn', hI', hw⟩
      subst hw
      have hn'' : n' = (Fm.undot (x.map Fm.wash)).length := hn'
      have hI'' : IsB w4 ao' cap' (Fm.undot (x.map Fm.wash)) := hI'
      have HN' := Hid.mk' hn''; have HI' := Hid.mk' hI''
      clear hn' hI' hn'' hI'' HU
      generalize Fm.undot (x.map Fm.wash) = u at *
      have hcap' : n' ≤ cap' := by rw [HN'.out]; exact HI'.out.1
      have hfin : ∀ j, j = min n' 40 → 0 < j → (convert 25 9 (.slice ao' j cap')).run Tryd.prog w4 = .ok (.string ⟨sf.toArray⟩) w4 := fun j hj h0 => by
        have h1 := HI'.out.first j (by rw [← HN'.out]; omega)
        have h2 := h1.str (P := Tryd.prog) 25 9 5 Tryd.underlying25 Tryd.underlying5 Tryd.underlying9
        have h3 : (u.take j).length = j := by rw [List.length_take, ← HN'.out]; omega
        rw [h3] at h2
        have h4 : sf = u.take j := by
          rw [HSf2.out, hj]
          have : u.take 40 = u.take (min n' 40) := by
            rcases Nat.le_total n' 40 with e | e
            · rw [Nat.min_eq_left e, List.take_of_length_le (by rw [← HN'.out]; exact e), List.take_of_length_le (by rw [← HN'.out]; omega)]
            · rw [Nat.min_eq_right e]
          rw [this]
          unfold Fm.named
          rw [if_neg]
          intro e
          rw [hj] at h3
          rw [e] at h3
          simp at h3
          omega
        rw [h4]; exact h2
      have HFin := Hid.mk' hfin
      clear hfin
      by_cases h0 : n' = 0
      · subst h0
        have HF : Hid (sf = [102, 105, 108, 101]) := by
          unfold Hid
          have hu : u = [] := List.eq_nil_of_length_eq_zero HN'.out.symm
          rw [HSf2.out, hu]; rfl
        clear HFin
        go_wp2
        go_ret
        exact ⟨by rw [HSF.out, HF.out]; rfl, HBl.out⟩
      · by_cases h40 : n' ≤ 40
        · have hcv := HFin.out n' (by omega) (by omega)
          have t0 : ((n' : Int) == 0) = false := by rw [beq_eq_false_iff_ne]; omega
          have h4a : (n' : Int) ≤ 40 := by omega
          clear HFin
          obtain ⟨sfb, hsb⟩ : ∃ sfb : ByteArray, (⟨sf.toArray⟩ : ByteArray) = sfb := ⟨_, rfl⟩
          rw [hsb] at hcv
          have HSb := Hid.mk' hsb
          clear hsb
          go_wp2
          go_ret
          exact ⟨by rw [HSF.out, HSb.out]; rfl, HBl.out⟩
        · have hcv := HFin.out 40 (by omega) (by omega)
          have h4a : ¬ (n' : Int) ≤ 40 := by omega
          have h4b : (40 : Int) < n' := by omega
          have h4c : (40 : Int) ≤ cap' := by omega
          clear HFin
          obtain ⟨sfb, hsb⟩ : ∃ sfb : ByteArray, (⟨sf.toArray⟩ : ByteArray) = sfb := ⟨_, rfl⟩
          rw [hsb] at hcv
          have HSb := Hid.mk' hsb
          clear hsb
          go_wp2
          go_ret
          exact ⟨by rw [HSF.out, HSb.out]; rfl, HBl.out⟩
end Go.Proofs.YtjpenioloeplgadDoor
