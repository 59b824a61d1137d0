/- The two laws of package chars, walked out of the contracts: each answers true, and nothing that was there has turned. -/
import Derived.Test.YtkacjjahbgdchaaDoorWalksG
namespace Go.Proofs.YtkacjjahbgdchaaDoor
open Go.RowKit

set_option maxHeartbeats 1000000 in
theorem begun_any (w : World) :
    Calls Tryd.prog 5 #[] w fun e w' => e = .returned (.bool true) ∧ Below w.heap.size w w' := by
  have h1 : ∀ w, Calls Tryd.prog 14 #[.string ⟨#[48, 49, 50]⟩] w fun e w' => e = .returned (.tuple #[.int .i64 12, .bool true]) ∧ w' = w := fun w => number10_any ⟨#[48, 49, 50]⟩ w (by decide)
  have h2 : ∀ w, Calls Tryd.prog 12 #[.int .u8 70] w fun e w' => e = .returned (.int .i64 15) ∧ w' = w := fun w => hex_any 70 w (by decide) (by decide)
  have h3 : ∀ w, Calls Tryd.prog 18 #[.string ⟨#[97, 46, 98]⟩] w fun e w' => e = .returned (.bool true) ∧ w' = w := fun w => isToken_any ⟨#[97, 46, 98]⟩ w (by decide)
  have h4 : ∀ w, Calls Tryd.prog 18 #[.string ⟨#[97, 32, 98]⟩] w fun e w' => e = .returned (.bool false) ∧ w' = w := fun w => isToken_any ⟨#[97, 32, 98]⟩ w (by decide)
  have h5 : ∀ w : World, Calls Tryd.prog 22 #[.string ⟨#[97, 90, 57]⟩] w fun e w' => e = .returned (.string ⟨#[97, 122, 57]⟩) ∧ Below w.heap.size w w' := fun w => lower_any ⟨#[97, 90, 57]⟩ w (by decide)
  have h6 : ∀ w : World, Calls Tryd.prog 24 #[.string ⟨#[32, 9, 120, 32]⟩] w fun e w' => e = .returned (.string ⟨#[120]⟩) ∧ Below w.heap.size w w' := fun w => trim_any ⟨#[32, 9, 120, 32]⟩ w (by decide)
  have H1 := Hid.mk' h1; have H2 := Hid.mk' h2; have H3 := Hid.mk' h3; have H4 := Hid.mk' h4; have H5 := Hid.mk' h5; have H6 := Hid.mk' h6
  clear h1 h2 h3 h4 h5 h6
  go_enter Tryd.func5, Tryd.ntmps5
  go_wp2_with fail
  refine (H1.out _).mono ?_
  rintro e w1 ⟨rfl, rfl⟩
  go_wp2_with fail
  refine (H2.out _).mono ?_
  rintro e w1 ⟨rfl, rfl⟩
  go_wp2_with fail
  refine (H3.out _).mono ?_
  rintro e w1 ⟨rfl, rfl⟩
  go_wp2_with fail
  refine (H4.out _).mono ?_
  rintro e w1 ⟨rfl, rfl⟩
  go_wp2_with fail
  refine (H5.out _).mono ?_
  rintro e w2 ⟨rfl, hb2⟩
  go_wp2_with fail
  refine (H6.out _).mono ?_
  rintro e w3 ⟨rfl, hb3⟩
  go_wp2
  go_ret
  exact ⟨rfl, then_ hb2 hb3⟩

/-- the statement's own test of a byte, however the byte lies -/
theorem kinds (c : Int) : c < 48 ∨ (48 ≤ c ∧ c ≤ 57) ∨ (57 < c ∧ c < 65) ∨ (65 ≤ c ∧ c ≤ 90) ∨ (90 < c ∧ c < 97) ∨ (97 ≤ c ∧ c ≤ 122) ∨ 122 < c := by omega

theorem begun_long (b : UInt8) (s : ByteArray) (w : World) (hlong : 2000 < s.size) :
    Calls Tryd.prog 3 #[.int .u8 b.toNat, .string s] w fun e w' => e = .returned (.bool true) ∧ Below w.heap.size w w' := by
  go_enter Tryd.func3, Tryd.ntmps3
  go_wp2_with fail
  refine (begun_any _).mono ?_
  rintro e w1 ⟨rfl, hb1⟩
  go_wp2
  go_ret
  exact ⟨rfl, hb1⟩

set_option maxHeartbeats 4000000 in
theorem does_short (b : UInt8) (s : ByteArray) (w : World) (hs : s.size ≤ 2000) :
    Calls Tryd.prog 3 #[.int .u8 b.toNat, .string s] w fun e w' => e = .returned (.bool true) ∧ Below w.heap.size w w' := by
  have hb := b.toNat_lt
  have hmax : s.size ≤ maxLen := by unfold maxLen; omega
  generalize hP10 : Ch.number 10 9 s.data.toList = p10
  generalize hP16 : Ch.number 16 6 s.data.toList = p16
  have H10 := Hid.mk' (fun w => hP10 ▸ number10_any s w hmax)
  have H10' := Hid.mk' (fun w => hP10 ▸ numberOf_any s w hmax)
  have H16 := Hid.mk' (fun w => hP16 ▸ number16_any s w hmax)
  have H16' := Hid.mk' (fun w => hP16 ▸ hexNumberOf_any s w hmax)
  clear hP10 hP16
  have HT := Hid.mk' (fun w => isToken_any s w hmax)
  have HT' := Hid.mk' (fun w => tokenText_any s w hmax)
  have HV := Hid.mk' (fun w => isVisible_any s w hmax)
  have HV' := Hid.mk' (fun w => seenText_any s w hmax)
  generalize Ch.isToken s.data.toList = bt at HT HT'
  generalize Ch.isVisible s.data.toList = bv at HV HV'
  have HL := Hid.mk' (fun w => lower_any s w hmax)
  have HL' := Hid.mk' (fun w => small_any s w hs)
  generalize (⟨(Ch.lower s.data.toList).toArray⟩ : ByteArray) = sl at HL HL'
  have HR := Hid.mk' (fun w => trim_any s w hs)
  have HR' := Hid.mk' (fun w => trimmed_any s w hmax)
  generalize (⟨(Lib.trimS s.data.toList Ch.ws).toArray⟩ : ByteArray) = st at HR HR'
  have HX := Hid.mk' (fun w => hex_any b.toNat w (by omega) (by omega))
  have HX' := Hid.mk' (fun w => hexOf_any b w)
  generalize Ch.hex b.toNat = x at HX HX'
  have HK := Hid.mk' (fun w => token_any b.toNat w)
  have HK' := Hid.mk' (fun w => isTokenByte_any b.toNat w (by omega) (by omega))
  generalize Ch.token b.toNat = k at HK HK'
  have HS := Hid.mk' (fun w => visible_any b.toNat w)
  have HS' := Hid.mk' (fun w => isSeen_any b.toNat w)
  generalize Ch.visible b.toNat = v at HS HS'
  rcases kinds b.toNat with h | h | h | h | h | h | h
  · have d48 : decide ((48 : Int) ≤ b.toNat) = false := decide_eq_false (by omega)
    have d57 : decide ((b.toNat : Int) ≤ 57) = true := decide_eq_true (by omega)
    have d97 : decide ((97 : Int) ≤ b.toNat) = false := decide_eq_false (by omega)
    have d122 : decide ((b.toNat : Int) ≤ 122) = true := decide_eq_true (by omega)
    have d65 : decide ((65 : Int) ≤ b.toNat) = false := decide_eq_false (by omega)
    have d90 : decide ((b.toNat : Int) ≤ 90) = true := decide_eq_true (by omega)
    have hd : Ch.digit b.toNat = false := by unfold Ch.digit; rw [d48, d57]; rfl
    have hl : Ch.letter b.toNat = false := by unfold Ch.letter Ch.capital; rw [d97, d122, d65, d90]; rfl
    have HD := Hid.mk' (fun w => hd ▸ digit_any b.toNat w)
    have HE := Hid.mk' (fun w => hl ▸ letter_any b.toNat w)
    clear hd hl
    go_enter Tryd.func3, Tryd.ntmps3
    go_wp2_with fail
    refine (begun_any _).mono ?_
    rintro e w1 ⟨rfl, hb1⟩
    go_wp2_with fail
    refine (HD.out _).mono ?_
    rintro e w' ⟨rfl, rfl⟩
    go_wp2_with fail
    refine (HE.out _).mono ?_
    rintro e w' ⟨rfl, rfl⟩
    go_wp2_with fail
    refine (HK.out _).mono ?_
    rintro e w' ⟨rfl, rfl⟩
    go_wp2_with fail
    refine (HK'.out _).mono ?_
    rintro e w' ⟨rfl, rfl⟩
    go_wp2_with fail
    refine (HS.out _).mono ?_
    rintro e w' ⟨rfl, rfl⟩
    go_wp2_with fail
    refine (HS'.out _).mono ?_
    rintro e w' ⟨rfl, rfl⟩
    go_wp2_with fail
    refine (HX.out _).mono ?_
    rintro e w' ⟨rfl, rfl⟩
    go_wp2_with fail
    refine (HX'.out _).mono ?_
    rintro e w2 ⟨rfl, hb2⟩
    go_wp2_with fail
    refine (H10.out _).mono ?_
    rintro e w' ⟨rfl, rfl⟩
    go_wp2_with fail
    refine (H10'.out _).mono ?_
    rintro e w3 ⟨rfl, hb3⟩
    go_wp2_with fail
    refine (H16.out _).mono ?_
    rintro e w' ⟨rfl, rfl⟩
    go_wp2_with fail
    refine (H16'.out _).mono ?_
    rintro e w4 ⟨rfl, hb4⟩
    go_wp2_with fail
    refine (HT.out _).mono ?_
    rintro e w' ⟨rfl, rfl⟩
    go_wp2_with fail
    refine (HT'.out _).mono ?_
    rintro e w' ⟨rfl, rfl⟩
    go_wp2_with fail
    refine (HV.out _).mono ?_
    rintro e w' ⟨rfl, rfl⟩
    go_wp2_with fail
    refine (HV'.out _).mono ?_
    rintro e w' ⟨rfl, rfl⟩
    go_wp2_with fail
    refine (HL.out _).mono ?_
    rintro e w5 ⟨rfl, hb5⟩
    go_wp2_with fail
    refine (HL'.out _).mono ?_
    rintro e w6 ⟨rfl, hb6⟩
    go_wp2_with fail
    refine (HR.out _).mono ?_
    rintro e w7 ⟨rfl, hb7⟩
    go_wp2_with fail
    refine (HR'.out _).mono ?_
    rintro e w' ⟨rfl, rfl⟩
    go_wp2
    go_ret
    exact ⟨rfl, then_ (then_ (then_ (then_ (then_ (then_ (hb1) hb2) hb3) hb4) hb5) (drewN_below hb6)) hb7⟩
  · have d48 : decide ((48 : Int) ≤ b.toNat) = true := decide_eq_true (by omega)
    have d57 : decide ((b.toNat : Int) ≤ 57) = true := decide_eq_true (by omega)
    have d97 : decide ((97 : Int) ≤ b.toNat) = false := decide_eq_false (by omega)
    have d122 : decide ((b.toNat : Int) ≤ 122) = true := decide_eq_true (by omega)
    have d65 : decide ((65 : Int) ≤ b.toNat) = false := decide_eq_false (by omega)
    have d90 : decide ((b.toNat : Int) ≤ 90) = true := decide_eq_true (by omega)
    have hd : Ch.digit b.toNat = true := by unfold Ch.digit; rw [d48, d57]; rfl
    have hl : Ch.letter b.toNat = false := by unfold Ch.letter Ch.capital; rw [d97, d122, d65, d90]; rfl
    have HD := Hid.mk' (fun w => hd ▸ digit_any b.toNat w)
    have HE := Hid.mk' (fun w => hl ▸ letter_any b.toNat w)
    clear hd hl
    go_enter Tryd.func3, Tryd.ntmps3
    go_wp2_with fail
    refine (begun_any _).mono ?_
    rintro e w1 ⟨rfl, hb1⟩
    go_wp2_with fail
    refine (HD.out _).mono ?_
    rintro e w' ⟨rfl, rfl⟩
    go_wp2_with fail
    refine (HE.out _).mono ?_
    rintro e w' ⟨rfl, rfl⟩
    go_wp2_with fail
    refine (HK.out _).mono ?_
    rintro e w' ⟨rfl, rfl⟩
    go_wp2_with fail
    refine (HK'.out _).mono ?_
    rintro e w' ⟨rfl, rfl⟩
    go_wp2_with fail
    refine (HS.out _).mono ?_
    rintro e w' ⟨rfl, rfl⟩
    go_wp2_with fail
    refine (HS'.out _).mono ?_
    rintro e w' ⟨rfl, rfl⟩
    go_wp2_with fail
    refine (HX.out _).mono ?_
    rintro e w' ⟨rfl, rfl⟩
    go_wp2_with fail
    refine (HX'.out _).mono ?_
    rintro e w2 ⟨rfl, hb2⟩
    go_wp2_with fail
    refine (H10.out _).mono ?_
    rintro e w' ⟨rfl, rfl⟩
    go_wp2_with fail
    refine (H10'.out _).mono ?_
    rintro e w3 ⟨rfl, hb3⟩
    go_wp2_with fail
    refine (H16.out _).mono ?_
    rintro e w' ⟨rfl, rfl⟩
    go_wp2_with fail
    refine (H16'.out _).mono ?_
    rintro e w4 ⟨rfl, hb4⟩
    go_wp2_with fail
    refine (HT.out _).mono ?_
    rintro e w' ⟨rfl, rfl⟩
    go_wp2_with fail
    refine (HT'.out _).mono ?_
    rintro e w' ⟨rfl, rfl⟩
    go_wp2_with fail
    refine (HV.out _).mono ?_
    rintro e w' ⟨rfl, rfl⟩
    go_wp2_with fail
    refine (HV'.out _).mono ?_
    rintro e w' ⟨rfl, rfl⟩
    go_wp2_with fail
    refine (HL.out _).mono ?_
    rintro e w5 ⟨rfl, hb5⟩
    go_wp2_with fail
    refine (HL'.out _).mono ?_
    rintro e w6 ⟨rfl, hb6⟩
    go_wp2_with fail
    refine (HR.out _).mono ?_
    rintro e w7 ⟨rfl, hb7⟩
    go_wp2_with fail
    refine (HR'.out _).mono ?_
    rintro e w' ⟨rfl, rfl⟩
    go_wp2
    go_ret
    exact ⟨rfl, then_ (then_ (then_ (then_ (then_ (then_ (hb1) hb2) hb3) hb4) hb5) (drewN_below hb6)) hb7⟩
  · have d48 : decide ((48 : Int) ≤ b.toNat) = true := decide_eq_true (by omega)
    have d57 : decide ((b.toNat : Int) ≤ 57) = false := decide_eq_false (by omega)
    have d97 : decide ((97 : Int) ≤ b.toNat) = false := decide_eq_false (by omega)
    have d122 : decide ((b.toNat : Int) ≤ 122) = true := decide_eq_true (by omega)
    have d65 : decide ((65 : Int) ≤ b.toNat) = false := decide_eq_false (by omega)
    have d90 : decide ((b.toNat : Int) ≤ 90) = true := decide_eq_true (by omega)
    have hd : Ch.digit b.toNat = false := by unfold Ch.digit; rw [d48, d57]; rfl
    have hl : Ch.letter b.toNat = false := by unfold Ch.letter Ch.capital; rw [d97, d122, d65, d90]; rfl
    have HD := Hid.mk' (fun w => hd ▸ digit_any b.toNat w)
    have HE := Hid.mk' (fun w => hl ▸ letter_any b.toNat w)
    clear hd hl
    go_enter Tryd.func3, Tryd.ntmps3
    go_wp2_with fail
    refine (begun_any _).mono ?_
    rintro e w1 ⟨rfl, hb1⟩
    go_wp2_with fail
    refine (HD.out _).mono ?_
    rintro e w' ⟨rfl, rfl⟩
    go_wp2_with fail
    refine (HE.out _).mono ?_
    rintro e w' ⟨rfl, rfl⟩
    go_wp2_with fail
    refine (HK.out _).mono ?_
    rintro e w' ⟨rfl, rfl⟩
    go_wp2_with fail
    refine (HK'.out _).mono ?_
    rintro e w' ⟨rfl, rfl⟩
    go_wp2_with fail
    refine (HS.out _).mono ?_
    rintro e w' ⟨rfl, rfl⟩
    go_wp2_with fail
    refine (HS'.out _).mono ?_
    rintro e w' ⟨rfl, rfl⟩
    go_wp2_with fail
    refine (HX.out _).mono ?_
    rintro e w' ⟨rfl, rfl⟩
    go_wp2_with fail
    refine (HX'.out _).mono ?_
    rintro e w2 ⟨rfl, hb2⟩
    go_wp2_with fail
    refine (H10.out _).mono ?_
    rintro e w' ⟨rfl, rfl⟩
    go_wp2_with fail
    refine (H10'.out _).mono ?_
    rintro e w3 ⟨rfl, hb3⟩
    go_wp2_with fail
    refine (H16.out _).mono ?_
    rintro e w' ⟨rfl, rfl⟩
    go_wp2_with fail
    refine (H16'.out _).mono ?_
    rintro e w4 ⟨rfl, hb4⟩
    go_wp2_with fail
    refine (HT.out _).mono ?_
    rintro e w' ⟨rfl, rfl⟩
    go_wp2_with fail
    refine (HT'.out _).mono ?_
    rintro e w' ⟨rfl, rfl⟩
    go_wp2_with fail
    refine (HV.out _).mono ?_
    rintro e w' ⟨rfl, rfl⟩
    go_wp2_with fail
    refine (HV'.out _).mono ?_
    rintro e w' ⟨rfl, rfl⟩
    go_wp2_with fail
    refine (HL.out _).mono ?_
    rintro e w5 ⟨rfl, hb5⟩
    go_wp2_with fail
    refine (HL'.out _).mono ?_
    rintro e w6 ⟨rfl, hb6⟩
    go_wp2_with fail
    refine (HR.out _).mono ?_
    rintro e w7 ⟨rfl, hb7⟩
    go_wp2_with fail
    refine (HR'.out _).mono ?_
    rintro e w' ⟨rfl, rfl⟩
    go_wp2
    go_ret
    exact ⟨rfl, then_ (then_ (then_ (then_ (then_ (then_ (hb1) hb2) hb3) hb4) hb5) (drewN_below hb6)) hb7⟩
  · have d48 : decide ((48 : Int) ≤ b.toNat) = true := decide_eq_true (by omega)
    have d57 : decide ((b.toNat : Int) ≤ 57) = false := decide_eq_false (by omega)
    have d97 : decide ((97 : Int) ≤ b.toNat) = false := decide_eq_false (by omega)
    have d122 : decide ((b.toNat : Int) ≤ 122) = true := decide_eq_true (by omega)
    have d65 : decide ((65 : Int) ≤ b.toNat) = true := decide_eq_true (by omega)
    have d90 : decide ((b.toNat : Int) ≤ 90) = true := decide_eq_true (by omega)
    have hd : Ch.digit b.toNat = false := by unfold Ch.digit; rw [d48, d57]; rfl
    have hl : Ch.letter b.toNat = true := by unfold Ch.letter Ch.capital; rw [d97, d122, d65, d90]; rfl
    have HD := Hid.mk' (fun w => hd ▸ digit_any b.toNat w)
    have HE := Hid.mk' (fun w => hl ▸ letter_any b.toNat w)
    clear hd hl
    go_enter Tryd.func3, Tryd.ntmps3
    go_wp2_with fail
    refine (begun_any _).mono ?_
    rintro e w1 ⟨rfl, hb1⟩
    go_wp2_with fail
    refine (HD.out _).mono ?_
    rintro e w' ⟨rfl, rfl⟩
    go_wp2_with fail
    refine (HE.out _).mono ?_
    rintro e w' ⟨rfl, rfl⟩
    go_wp2_with fail
    refine (HK.out _).mono ?_
    rintro e w' ⟨rfl, rfl⟩
    go_wp2_with fail
    refine (HK'.out _).mono ?_
    rintro e w' ⟨rfl, rfl⟩
    go_wp2_with fail
    refine (HS.out _).mono ?_
    rintro e w' ⟨rfl, rfl⟩
    go_wp2_with fail
    refine (HS'.out _).mono ?_
    rintro e w' ⟨rfl, rfl⟩
    go_wp2_with fail
    refine (HX.out _).mono ?_
    rintro e w' ⟨rfl, rfl⟩
    go_wp2_with fail
    refine (HX'.out _).mono ?_
    rintro e w2 ⟨rfl, hb2⟩
    go_wp2_with fail
    refine (H10.out _).mono ?_
    rintro e w' ⟨rfl, rfl⟩
    go_wp2_with fail
    refine (H10'.out _).mono ?_
    rintro e w3 ⟨rfl, hb3⟩
    go_wp2_with fail
    refine (H16.out _).mono ?_
    rintro e w' ⟨rfl, rfl⟩
    go_wp2_with fail
    refine (H16'.out _).mono ?_
    rintro e w4 ⟨rfl, hb4⟩
    go_wp2_with fail
    refine (HT.out _).mono ?_
    rintro e w' ⟨rfl, rfl⟩
    go_wp2_with fail
    refine (HT'.out _).mono ?_
    rintro e w' ⟨rfl, rfl⟩
    go_wp2_with fail
    refine (HV.out _).mono ?_
    rintro e w' ⟨rfl, rfl⟩
    go_wp2_with fail
    refine (HV'.out _).mono ?_
    rintro e w' ⟨rfl, rfl⟩
    go_wp2_with fail
    refine (HL.out _).mono ?_
    rintro e w5 ⟨rfl, hb5⟩
    go_wp2_with fail
    refine (HL'.out _).mono ?_
    rintro e w6 ⟨rfl, hb6⟩
    go_wp2_with fail
    refine (HR.out _).mono ?_
    rintro e w7 ⟨rfl, hb7⟩
    go_wp2_with fail
    refine (HR'.out _).mono ?_
    rintro e w' ⟨rfl, rfl⟩
    go_wp2
    go_ret
    exact ⟨rfl, then_ (then_ (then_ (then_ (then_ (then_ (hb1) hb2) hb3) hb4) hb5) (drewN_below hb6)) hb7⟩
  · have d48 : decide ((48 : Int) ≤ b.toNat) = true := decide_eq_true (by omega)
    have d57 : decide ((b.toNat : Int) ≤ 57) = false := decide_eq_false (by omega)
    have d97 : decide ((97 : Int) ≤ b.toNat) = false := decide_eq_false (by omega)
    have d122 : decide ((b.toNat : Int) ≤ 122) = true := decide_eq_true (by omega)
    have d65 : decide ((65 : Int) ≤ b.toNat) = true := decide_eq_true (by omega)
    have d90 : decide ((b.toNat : Int) ≤ 90) = false := decide_eq_false (by omega)
    have hd : Ch.digit b.toNat = false := by unfold Ch.digit; rw [d48, d57]; rfl
    have hl : Ch.letter b.toNat = false := by unfold Ch.letter Ch.capital; rw [d97, d122, d65, d90]; rfl
    have HD := Hid.mk' (fun w => hd ▸ digit_any b.toNat w)
    have HE := Hid.mk' (fun w => hl ▸ letter_any b.toNat w)
    clear hd hl
    go_enter Tryd.func3, Tryd.ntmps3
    go_wp2_with fail
    refine (begun_any _).mono ?_
    rintro e w1 ⟨rfl, hb1⟩
    go_wp2_with fail
    refine (HD.out _).mono ?_
    rintro e w' ⟨rfl, rfl⟩
    go_wp2_with fail
    refine (HE.out _).mono ?_
    rintro e w' ⟨rfl, rfl⟩
    go_wp2_with fail
    refine (HK.out _).mono ?_
    rintro e w' ⟨rfl, rfl⟩
    go_wp2_with fail
    refine (HK'.out _).mono ?_
    rintro e w' ⟨rfl, rfl⟩
    go_wp2_with fail
    refine (HS.out _).mono ?_
    rintro e w' ⟨rfl, rfl⟩
    go_wp2_with fail
    refine (HS'.out _).mono ?_
    rintro e w' ⟨rfl, rfl⟩
    go_wp2_with fail
    refine (HX.out _).mono ?_
    rintro e w' ⟨rfl, rfl⟩
    go_wp2_with fail
    refine (HX'.out _).mono ?_
    rintro e w2 ⟨rfl, hb2⟩
    go_wp2_with fail
    refine (H10.out _).mono ?_
    rintro e w' ⟨rfl, rfl⟩
    go_wp2_with fail
    refine (H10'.out _).mono ?_
    rintro e w3 ⟨rfl, hb3⟩
    go_wp2_with fail
    refine (H16.out _).mono ?_
    rintro e w' ⟨rfl, rfl⟩
    go_wp2_with fail
    refine (H16'.out _).mono ?_
    rintro e w4 ⟨rfl, hb4⟩
    go_wp2_with fail
    refine (HT.out _).mono ?_
    rintro e w' ⟨rfl, rfl⟩
    go_wp2_with fail
    refine (HT'.out _).mono ?_
    rintro e w' ⟨rfl, rfl⟩
    go_wp2_with fail
    refine (HV.out _).mono ?_
    rintro e w' ⟨rfl, rfl⟩
    go_wp2_with fail
    refine (HV'.out _).mono ?_
    rintro e w' ⟨rfl, rfl⟩
    go_wp2_with fail
    refine (HL.out _).mono ?_
    rintro e w5 ⟨rfl, hb5⟩
    go_wp2_with fail
    refine (HL'.out _).mono ?_
    rintro e w6 ⟨rfl, hb6⟩
    go_wp2_with fail
    refine (HR.out _).mono ?_
    rintro e w7 ⟨rfl, hb7⟩
    go_wp2_with fail
    refine (HR'.out _).mono ?_
    rintro e w' ⟨rfl, rfl⟩
    go_wp2
    go_ret
    exact ⟨rfl, then_ (then_ (then_ (then_ (then_ (then_ (hb1) hb2) hb3) hb4) hb5) (drewN_below hb6)) hb7⟩
  · have d48 : decide ((48 : Int) ≤ b.toNat) = true := decide_eq_true (by omega)
    have d57 : decide ((b.toNat : Int) ≤ 57) = false := decide_eq_false (by omega)
    have d97 : decide ((97 : Int) ≤ b.toNat) = true := decide_eq_true (by omega)
    have d122 : decide ((b.toNat : Int) ≤ 122) = true := decide_eq_true (by omega)
    have d65 : decide ((65 : Int) ≤ b.toNat) = true := decide_eq_true (by omega)
    have d90 : decide ((b.toNat : Int) ≤ 90) = false := decide_eq_false (by omega)
    have hd : Ch.digit b.toNat = false := by unfold Ch.digit; rw [d48, d57]; rfl
    have hl : Ch.letter b.toNat = true := by unfold Ch.letter Ch.capital; rw [d97, d122, d65, d90]; rfl
    have HD := Hid.mk' (fun w => hd ▸ digit_any b.toNat w)
    have HE := Hid.mk' (fun w => hl ▸ letter_any b.toNat w)
    clear hd hl
    go_enter Tryd.func3, Tryd.ntmps3
    go_wp2_with fail
    refine (begun_any _).mono ?_
    rintro e w1 ⟨rfl, hb1⟩
    go_wp2_with fail
    refine (HD.out _).mono ?_
    rintro e w' ⟨rfl, rfl⟩
    go_wp2_with fail
    refine (HE.out _).mono ?_
    rintro e w' ⟨rfl, rfl⟩
    go_wp2_with fail
    refine (HK.out _).mono ?_
    rintro e w' ⟨rfl, rfl⟩
    go_wp2_with fail
    refine (HK'.out _).mono ?_
    rintro e w' ⟨rfl, rfl⟩
    go_wp2_with fail
    refine (HS.out _).mono ?_
    rintro e w' ⟨rfl, rfl⟩
    go_wp2_with fail
    refine (HS'.out _).mono ?_
    rintro e w' ⟨rfl, rfl⟩
    go_wp2_with fail
    refine (HX.out _).mono ?_
    rintro e w' ⟨rfl, rfl⟩
    go_wp2_with fail
    refine (HX'.out _).mono ?_
    rintro e w2 ⟨rfl, hb2⟩
    go_wp2_with fail
    refine (H10.out _).mono ?_
    rintro e w' ⟨rfl, rfl⟩
    go_wp2_with fail
    refine (H10'.out _).mono ?_
    rintro e w3 ⟨rfl, hb3⟩
    go_wp2_with fail
    refine (H16.out _).mono ?_
    rintro e w' ⟨rfl, rfl⟩
    go_wp2_with fail
    refine (H16'.out _).mono ?_
    rintro e w4 ⟨rfl, hb4⟩
    go_wp2_with fail
    refine (HT.out _).mono ?_
    rintro e w' ⟨rfl, rfl⟩
    go_wp2_with fail
    refine (HT'.out _).mono ?_
    rintro e w' ⟨rfl, rfl⟩
    go_wp2_with fail
    refine (HV.out _).mono ?_
    rintro e w' ⟨rfl, rfl⟩
    go_wp2_with fail
    refine (HV'.out _).mono ?_
    rintro e w' ⟨rfl, rfl⟩
    go_wp2_with fail
    refine (HL.out _).mono ?_
    rintro e w5 ⟨rfl, hb5⟩
    go_wp2_with fail
    refine (HL'.out _).mono ?_
    rintro e w6 ⟨rfl, hb6⟩
    go_wp2_with fail
    refine (HR.out _).mono ?_
    rintro e w7 ⟨rfl, hb7⟩
    go_wp2_with fail
    refine (HR'.out _).mono ?_
    rintro e w' ⟨rfl, rfl⟩
    go_wp2
    go_ret
    exact ⟨rfl, then_ (then_ (then_ (then_ (then_ (then_ (hb1) hb2) hb3) hb4) hb5) (drewN_below hb6)) hb7⟩
  · have d48 : decide ((48 : Int) ≤ b.toNat) = true := decide_eq_true (by omega)
    have d57 : decide ((b.toNat : Int) ≤ 57) = false := decide_eq_false (by omega)
    have d97 : decide ((97 : Int) ≤ b.toNat) = true := decide_eq_true (by omega)
    have d122 : decide ((b.toNat : Int) ≤ 122) = false := decide_eq_false (by omega)
    have d65 : decide ((65 : Int) ≤ b.toNat) = true := decide_eq_true (by omega)
    have d90 : decide ((b.toNat : Int) ≤ 90) = false := decide_eq_false (by omega)
    have hd : Ch.digit b.toNat = false := by unfold Ch.digit; rw [d48, d57]; rfl
    have hl : Ch.letter b.toNat = false := by unfold Ch.letter Ch.capital; rw [d97, d122, d65, d90]; rfl
    have HD := Hid.mk' (fun w => hd ▸ digit_any b.toNat w)
    have HE := Hid.mk' (fun w => hl ▸ letter_any b.toNat w)
    clear hd hl
    go_enter Tryd.func3, Tryd.ntmps3
    go_wp2_with fail
    refine (begun_any _).mono ?_
    rintro e w1 ⟨rfl, hb1⟩
    go_wp2_with fail
    refine (HD.out _).mono ?_
    rintro e w' ⟨rfl, rfl⟩
    go_wp2_with fail
    refine (HE.out _).mono ?_
    rintro e w' ⟨rfl, rfl⟩
    go_wp2_with fail
    refine (HK.out _).mono ?_
    rintro e w' ⟨rfl, rfl⟩
    go_wp2_with fail
    refine (HK'.out _).mono ?_
    rintro e w' ⟨rfl, rfl⟩
    go_wp2_with fail
    refine (HS.out _).mono ?_
    rintro e w' ⟨rfl, rfl⟩
    go_wp2_with fail
    refine (HS'.out _).mono ?_
    rintro e w' ⟨rfl, rfl⟩
    go_wp2_with fail
    refine (HX.out _).mono ?_
    rintro e w' ⟨rfl, rfl⟩
    go_wp2_with fail
    refine (HX'.out _).mono ?_
    rintro e w2 ⟨rfl, hb2⟩
    go_wp2_with fail
    refine (H10.out _).mono ?_
    rintro e w' ⟨rfl, rfl⟩
    go_wp2_with fail
    refine (H10'.out _).mono ?_
    rintro e w3 ⟨rfl, hb3⟩
    go_wp2_with fail
    refine (H16.out _).mono ?_
    rintro e w' ⟨rfl, rfl⟩
    go_wp2_with fail
    refine (H16'.out _).mono ?_
    rintro e w4 ⟨rfl, hb4⟩
    go_wp2_with fail
    refine (HT.out _).mono ?_
    rintro e w' ⟨rfl, rfl⟩
    go_wp2_with fail
    refine (HT'.out _).mono ?_
    rintro e w' ⟨rfl, rfl⟩
    go_wp2_with fail
    refine (HV.out _).mono ?_
    rintro e w' ⟨rfl, rfl⟩
    go_wp2_with fail
    refine (HV'.out _).mono ?_
    rintro e w' ⟨rfl, rfl⟩
    go_wp2_with fail
    refine (HL.out _).mono ?_
    rintro e w5 ⟨rfl, hb5⟩
    go_wp2_with fail
    refine (HL'.out _).mono ?_
    rintro e w6 ⟨rfl, hb6⟩
    go_wp2_with fail
    refine (HR.out _).mono ?_
    rintro e w7 ⟨rfl, hb7⟩
    go_wp2_with fail
    refine (HR'.out _).mono ?_
    rintro e w' ⟨rfl, rfl⟩
    go_wp2
    go_ret
    exact ⟨rfl, then_ (then_ (then_ (then_ (then_ (then_ (hb1) hb2) hb3) hb4) hb5) (drewN_below hb6)) hb7⟩

end Go.Proofs.YtkacjjahbgdchaaDoor
