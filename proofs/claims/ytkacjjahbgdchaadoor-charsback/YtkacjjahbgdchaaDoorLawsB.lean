/- The law CharsBack walked out of the contracts: it answers true, and nothing that was there has turned. -/
import Derived.Test.YtkacjjahbgdchaaDoorLawsA
namespace Go.Proofs.YtkacjjahbgdchaaDoor
open Go.RowKit

theorem modNum (n : Int) : ∃ m : Nat, m < 1000000000 ∧ Hid (wrap64 ((IntKind.u64.wrap n).tmod 1000000000) = m) := by
  have h0 : 0 ≤ IntKind.u64.wrap n := by
    simp [IntKind.wrap, IntKind.signed, IntKind.bits]
    omega
  generalize IntKind.u64.wrap n = u at h0
  obtain ⟨v, rfl⟩ := Int.eq_ofNat_of_zero_le h0
  refine ⟨v % 1000000000, by omega, ?_⟩
  have e : ((v : Int).tmod 1000000000) = ((v % 1000000000 : Nat) : Int) := by
    rw [Int.tmod_eq_emod_of_nonneg (by omega)]; omega
  rw [e]
  have hb : v % 1000000000 < 1000000000 := Nat.mod_lt _ (by decide)
  generalize v % 1000000000 = x at hb
  unfold Hid
  simp [wrap64]
  omega

theorem back_long (n : Int) (s : ByteArray) (w : World) (hlong : 2000 < s.size) :
    Calls Tryd.prog 4 #[.int .i64 n, .string s] w fun e w' => e = .returned (.bool true) ∧ Below w.heap.size w w' := by
  go_enter Tryd.func4, Tryd.ntmps4
  go_wp2_with fail
  refine (begun_any _).mono ?_
  rintro e w1 ⟨rfl, hb1⟩
  go_wp2
  go_ret
  exact ⟨rfl, hb1⟩

set_option maxHeartbeats 1000000 in
theorem back_short (n : Int) (s : ByteArray) (w : World) (hs : s.size ≤ 2000) :
    Calls Tryd.prog 4 #[.int .i64 n, .string s] w fun e w' => e = .returned (.bool true) ∧ Below w.heap.size w w' := by
  have hmax : s.size ≤ maxLen := by unfold maxLen; omega
  have HT := Hid.mk' (fun w => trim_any s w hs)
  have htl := trimS_le s.data.toList
  have hta := trimS_again s.data.toList
  rw [Ch.len_list] at htl
  generalize Lib.trimS s.data.toList Ch.ws = t at HT htl hta
  have hts : (⟨t.toArray⟩ : ByteArray).size ≤ 2000 := by show t.toArray.size ≤ 2000; rw [List.size_toArray]; omega
  have HT2 := Hid.mk' (fun w => trim_any ⟨t.toArray⟩ w hts)
  rw [show (⟨t.toArray⟩ : ByteArray).data.toList = t from rfl, hta] at HT2
  clear hta
  have HL := Hid.mk' (fun w => lower_any s w hmax)
  have hul := Ch.lower_length s.data.toList
  have hua := Ch.lower_again s.data.toList
  have htok := Ch.lower_token s.data.toList
  have HK := Hid.mk' (fun w => isToken_any s w hmax)
  generalize Ch.lower s.data.toList = u at HL hul hua htok
  rw [Ch.len_list] at hul
  have hus : (⟨u.toArray⟩ : ByteArray).size = s.size := by show u.toArray.size = _; rw [List.size_toArray, hul]
  have HL2 := Hid.mk' (fun w => lower_any ⟨u.toArray⟩ w (by rw [hus]; exact hmax))
  rw [show (⟨u.toArray⟩ : ByteArray).data.toList = u from rfl, hua] at HL2
  have HK2 := Hid.mk' (fun w => isToken_any ⟨u.toArray⟩ w (by rw [hus]; exact hmax))
  rw [show (⟨u.toArray⟩ : ByteArray).data.toList = u from rfl, htok] at HK2
  clear hua htok hul htl hts
  generalize Ch.isToken s.data.toList = k at HK HK2
  generalize (⟨t.toArray⟩ : ByteArray) = bt at HT HT2
  generalize (⟨u.toArray⟩ : ByteArray) = bu at HL HL2 HK2 hus
  go_enter Tryd.func4, Tryd.ntmps4
  go_wp2_with fail
  refine (begun_any _).mono ?_
  rintro e w1 ⟨rfl, hb1⟩
  go_wp2_with fail
  refine (HT.out _).mono ?_
  rintro e w2 ⟨rfl, hb2⟩
  go_wp2_with fail
  refine (HL.out _).mono ?_
  rintro e w3 ⟨rfl, hb3⟩
  go_wp2_with fail
  refine (HT2.out _).mono ?_
  rintro e w4 ⟨rfl, hb4⟩
  go_wp2_with fail
  refine (HL2.out _).mono ?_
  rintro e w5 ⟨rfl, hb5⟩
  go_wp2_with fail
  refine (HK.out _).mono ?_
  rintro e w' ⟨rfl, rfl⟩
  go_wp2_with fail
  refine (HK2.out _).mono ?_
  rintro e w' ⟨rfl, rfl⟩
  go_wp2_with fail
  obtain ⟨m, hm, HM⟩ := modNum n
  rw [HM.out]
  clear HM
  have hnum : (⟨(Ch.decF 8 m).toArray⟩ : ByteArray).size ≤ maxLen := by
    have := Ch.decF_length 8 m
    show (Ch.decF 8 m).toArray.size ≤ maxLen
    rw [List.size_toArray]; unfold maxLen; omega
  have HN := Hid.mk' (fun w => num_f 8 m w (by omega) (by omega) (by omega))
  have HN2 := Hid.mk' (fun w => number10_any ⟨(Ch.decF 8 m).toArray⟩ w hnum)
  rw [show (⟨(Ch.decF 8 m).toArray⟩ : ByteArray).data.toList = Ch.decF 8 m from rfl, Ch.number_dec m hm] at HN2
  have hx : m % 16777216 < 16777216 := Nat.mod_lt _ (by decide)
  have hhex : (⟨(Ch.hexF 5 (m % 16777216)).toArray⟩ : ByteArray).size ≤ maxLen := by
    have := Ch.hexF_length 5 (m % 16777216)
    show (Ch.hexF 5 (m % 16777216)).toArray.size ≤ maxLen
    rw [List.size_toArray]; unfold maxLen; omega
  have HX := Hid.mk' (fun w => hexText_f 5 (m % 16777216) w (by omega) (by omega) (by omega))
  have HX2 := Hid.mk' (fun w => number16_any ⟨(Ch.hexF 5 (m % 16777216)).toArray⟩ w hhex)
  rw [show (⟨(Ch.hexF 5 (m % 16777216)).toArray⟩ : ByteArray).data.toList = Ch.hexF 5 (m % 16777216) from rfl, Ch.number_hex _ hx] at HX2
  rw [show ((m % 16777216 : Nat) : Int) = (m : Int) % 16777216 by omega] at HX HX2
  generalize (⟨(Ch.decF 8 m).toArray⟩ : ByteArray) = bn at HN HN2
  generalize (⟨(Ch.hexF 5 (m % 16777216)).toArray⟩ : ByteArray) = bx at HX HX2
  clear hnum hhex hx
  refine (HN.out _).mono ?_
  rintro e w6 ⟨rfl, hb6⟩
  go_wp2_with fail
  refine (HN2.out _).mono ?_
  rintro e w' ⟨rfl, rfl⟩
  go_wp2_with fail
  refine (HX.out _).mono ?_
  rintro e w' ⟨rfl, rfl⟩
  go_wp2_with fail
  refine (HX2.out _).mono ?_
  rintro e w' ⟨rfl, rfl⟩
  go_wp2
  go_ret
  exact ⟨rfl, then_ (then_ (then_ (then_ (then_ hb1 hb2) hb3) hb4) hb5) (drewN_below hb6)⟩

end Go.Proofs.YtkacjjahbgdchaaDoor
