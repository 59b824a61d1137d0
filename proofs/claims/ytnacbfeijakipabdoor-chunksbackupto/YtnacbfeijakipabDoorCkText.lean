/- chunks.Write and the document's own ChunksText, walked. -/
import Derived.Test.YtnacbfeijakipabDoorPk14
import Derived.Test.YtnacbfeijakipabDoorPk15
import Derived.Test.YtnacbfeijakipabDoorPk13
namespace Go.Proofs.YtnacbfeijakipabDoor
open Go.RowKit

/-- what a loop over lists keeps: so many of them are written -/
structure TxRel (w : World) (ls : List (List UInt8)) (i : Nat) (ao : Option Addr) (cap m : Nat) (wr : World) : Prop where
  own : OwnB wr w.heap.size 5 ao cap ((ls.take i).flatMap Ck.one)
  len : ((ls.take i).flatMap Ck.one).length = m
  below : Below w.heap.size w wr
theorem one_le (x : List UInt8) : (Ck.one x).length ≤ x.length + 10 := by
  unfold Ck.one
  split
  · simp
  · have := (Ch.hexF_length 5 x.length).1
    simp; omega
theorem flat_le : ∀ (ls : List (List UInt8)) (i : Nat), ((ls.take i).flatMap Ck.one).length ≤ ls.flatten.length + 10 * ls.length
  | [], i => by simp
  | x :: t, 0 => by simp
  | x :: t, i + 1 => by
    have h1 := one_le x
    have h2 := flat_le t i
    simp only [List.take_succ_cons, List.flatMap_cons, List.length_append, List.flatten_cons, List.length_cons] at h2 ⊢
    omega
theorem flat_snoc (ls : List (List UInt8)) (i : Nat) (hi : i < ls.length) : (ls.take (i + 1)).flatMap Ck.one = (ls.take i).flatMap Ck.one ++ Ck.one ls[i] := by
  rw [List.take_succ_eq_append_getElem hi, List.flatMap_append]; simp only [List.flatMap_cons, List.flatMap_nil, List.append_nil]
theorem at_le : ∀ (ls : List (List UInt8)) (i : Nat) (hi : i < ls.length), ls[i].length ≤ ls.flatten.length
  | x :: t, 0, _ => by simp
  | x :: t, i + 1, hi => by
    have := at_le t i (by simpa using hi)
    simp only [List.getElem_cons_succ, List.flatten_cons, List.length_append]; omega
/-- what both write -/
def TextOut (w : World) (ls : List (List UInt8)) (e : Ending) (w' : World) : Prop := ∃ ao cap, e = .returned (.slice ao (Ck.text ls).length cap) ∧ OwnB w' w.heap.size 5 ao cap (Ck.text ls) ∧ Below w.heap.size w w'

set_option maxRecDepth 100000 in
set_option maxHeartbeats 1600000 in
theorem write_any (w : World) (ab : Option Addr) (cap : Nat) (ls : List (List UInt8)) (hls : IsL w ab cap ls) (hn : ls.length ≤ 100) (hf : ls.flatten.length ≤ 10000) (hT : TzAt w) :
    Calls Tryd.prog 19 #[.slice ab ls.length cap] w fun e w' => TextOut w ls e w' := by
  have HB := Hid.mk' hls
  have HT := Hid.mk' hT
  have hcap := hls.1
  clear hls hT
  obtain ⟨i0, hi0, hz0, hz1, hz2⟩ := info_parts info_u8
  have Hi := Hid.mk' hi0; have Hz0 := Hid.mk' hz0; have Hz1 := Hid.mk' hz1; have Hz2 := Hid.mk' hz2
  clear hi0 hz0 hz1 hz2
  go_enter Tryd.func19, Tryd.ntmps19
  go_wp2
  go_loopw [3, 8] (fun vo vi wr => ∃ (i m : Nat) (ao : Option Addr) (ca : Nat), i ≤ ls.length ∧ vi = .int .i64 i ∧ vo = .slice ao m ca ∧ TxRel w ls i ao ca m wr) (fun _ vi _ => ls.length - (intOf vi).toNat)
  case atStart => exact ⟨0, 0, none, 0, Nat.zero_le _, rfl, rfl, ⟨OwnB.nil _ _ _, rfl, Below.refl _ _⟩⟩
  case round =>
    obtain ⟨i, m, ao, ca, hil, rfl, rfl, hR⟩ := hrel
    have HR := Hid.mk' hR
    have hm : m ≤ 11000 := by have := flat_le ls i; rw [hR.len] at this; omega
    clear hR
    by_cases hlt : i < ls.length
    · obtain ⟨bb, oo, rfl, _⟩ := HB.out.lit (by omega)
      obtain ⟨bo, bc, hbc, hat⟩ := HB.out.at_ i hlt
      have hlt' : (i : Int) < ls.length := by omega
      have hc0 := (hat wr HR.out.below).1
      have HAt := Hid.mk' (fun W hW => (hat W hW).2)
      have hx2 := at_le ls i hlt
      have HS := Hid.mk' (flat_snoc ls i hlt)
      clear hat
      generalize ls[i] = x at *
      have HOx : Hid (Ck.one x = if x = [] then [] else Ch.hexF 5 x.length ++ [13, 10] ++ x ++ [13, 10]) := rfl
      by_cases hx0 : x = []
      · subst hx0
        have HE : Hid ((ls.take (i + 1)).flatMap Ck.one = (ls.take i).flatMap Ck.one) := by
          have := HS.out; unfold Hid; rw [this]; simp [Ck.one]
        clear HS HOx
        go_wp2
        go_roundw
        case rel => exact ⟨i + 1, m, ao, ca, by omega, by go_num, rfl, ⟨by rw [HE.out]; exact HR.out.own, by rw [HE.out]; exact HR.out.len, HR.out.below⟩⟩
        case measure => simp [intOf]; omega
      · have hxl : 0 < x.length := List.length_pos_iff.2 hx0
        have t0 : ((x.length : Int) == 0) = false := by rw [beq_eq_false_iff_ne]; omega
        have HA := Hid.mk' (appendInt_16 wr w.heap.size x.length (by omega) ao ca m _ HR.out.len HR.out.own HR.out.below.size (by omega) (HT.out.stay HR.out.below))
        have HO1 : Hid (Ck.one x = Ch.hexF 5 x.length ++ [13, 10] ++ x ++ [13, 10]) := by have := HOx.out; rw [if_neg hx0] at this; exact this
        have hh := (Ch.hexF_length 5 x.length).1
        clear HOx
        unfold AppOut at HA
        generalize hhx : Ch.hexF 5 x.length = hx at *
        generalize hpre : (ls.take i).flatMap Ck.one = pre at *
        have HPre := Hid.mk' hpre
        clear hhx hpre
        go_wp2_with fail
        refine HA.out.mono ?_
        rintro e w1 ⟨ao1, ca1, he, hO1, hB1⟩
        subst he
        have HO1' := Hid.mk' hO1; have HB1 := Hid.mk' (HR.out.below.trans hB1)
        have HPl : Hid (pre.length = m) := by have := HR.out.len; rw [HPre.out] at this; exact this
        clear hO1 hB1 HA HR hc0
        go_wp2_with (first
          | (at_builtin; refine wpList_append_s rfl (.tmp 19) (.const (.string ⟨#[13, 10]⟩)) 36 9 rfl w.heap.size 5 i0 Tryd.underlying36 Tryd.underlying9 Hi.out Hz0.out Hz1.out Hz2.out (l := pre ++ hx) rfl (by rw [List.length_append, HPl.out]) HO1'.out ⟨#[13, 10]⟩ rfl (by show _ + 2 ≤ _; omega) HB1.out.size ?_; intro ao2 ca2 w2 hO2 hG2; have HO2 := Hid.mk' hO2; have HB2 := Hid.mk' (HB1.out.trans (grown_base HO1'.out hG2 HB1.out.size)); clear hO2 hG2)
          | (at_builtin; refine wpList_append_at rfl (.tmp 21) (.tmp 22) 36 rfl w.heap.size 5 i0 Tryd.underlying36 Hi.out Hz0.out Hz1.out Hz2.out (l := pre ++ hx ++ [13, 10]) (l2 := x) rfl (by rw [List.length_append, List.length_append, HPl.out]; rfl) HO2.out rfl rfl (HAt.out _ HB2.out) (by show _ ≤ _; omega) HB2.out.size ?_; intro ao3 ca3 w3 hO3 hG3 _; have HO3 := Hid.mk' hO3; have HB3 := Hid.mk' (HB2.out.trans (grown_base HO2.out hG3 HB2.out.size)); clear hO3 hG3)
          | (at_builtin; refine wpList_append_s rfl (.tmp 24) (.const (.string ⟨#[13, 10]⟩)) 36 9 rfl w.heap.size 5 i0 Tryd.underlying36 Tryd.underlying9 Hi.out Hz0.out Hz1.out Hz2.out (l := pre ++ hx ++ [13, 10] ++ x) rfl (by rw [List.length_append, List.length_append, List.length_append, HPl.out]; rfl) HO3.out ⟨#[13, 10]⟩ rfl (by show _ + 2 ≤ _; omega) HB3.out.size ?_; intro ao4 ca4 w4 hO4 hG4; have HO4 := Hid.mk' hO4; have HB4 := Hid.mk' (HB3.out.trans (grown_base HO3.out hG4 HB3.out.size)); clear hO4 hG4))
        go_roundw
        case rel =>
          have e : (ls.take (i + 1)).flatMap Ck.one = pre ++ hx ++ [13, 10] ++ x ++ [13, 10] := by rw [HS.out, HO1.out]; simp
          refine ⟨i + 1, m + hx.length + 2 + x.length + 2, ao4, ca4, by omega, by go_num, rfl, ⟨by rw [e]; exact HO4.out, ?_, HB4.out⟩⟩
          rw [e]
          simp only [List.length_append, HPl.out]
          rfl
        case measure => simp [intOf]; omega
    · obtain rfl : i = ls.length := by omega
      have HX : Hid (Ck.text ls = (ls.take ls.length).flatMap Ck.one ++ [48, 13, 10, 13, 10]) := by unfold Hid Ck.text; rw [List.take_length]
      generalize hpre : (ls.take ls.length).flatMap Ck.one = pre at *
      have HPl := Hid.mk' HR.out.len; have HO1 := Hid.mk' HR.out.own; have HB1 := Hid.mk' HR.out.below
      rw [hpre] at HPl HO1
      clear hpre HR
      go_wp2_with (at_builtin; refine wpList_append_s rfl (.tmp 27) (.const (.string ⟨#[48, 13, 10, 13, 10]⟩)) 36 9 rfl w.heap.size 5 i0 Tryd.underlying36 Tryd.underlying9 Hi.out Hz0.out Hz1.out Hz2.out (l := pre) rfl HPl.out HO1.out ⟨#[48, 13, 10, 13, 10]⟩ rfl (by show _ + 5 ≤ _; omega) HB1.out.size ?_; intro ao2 ca2 w2 hO2 hG2; have HO2 := Hid.mk' hO2; have HB2 := Hid.mk' (HB1.out.trans (grown_base HO1.out hG2 HB1.out.size)); clear hO2 hG2)
      go_ret
      exact ⟨ao2, ca2, by rw [HX.out, List.length_append, HPl.out]; rfl, by rw [HX.out]; exact HO2.out, HB2.out⟩

set_option maxRecDepth 100000 in
set_option maxHeartbeats 1600000 in
theorem chunksText_any (w : World) (ab : Option Addr) (cap : Nat) (ls : List (List UInt8)) (hls : IsL w ab cap ls) (hn : ls.length ≤ 100) (hf : ls.flatten.length ≤ 10000) :
    Calls Tryd.prog 20 #[.slice ab ls.length cap] w fun e w' => TextOut w ls e w' := by
  have HB := Hid.mk' hls
  have hcap := hls.1
  clear hls
  obtain ⟨i0, hi0, hz0, hz1, hz2⟩ := info_parts info_u8
  have Hi := Hid.mk' hi0; have Hz0 := Hid.mk' hz0; have Hz1 := Hid.mk' hz1; have Hz2 := Hid.mk' hz2
  clear hi0 hz0 hz1 hz2
  go_enter Tryd.func20, Tryd.ntmps20
  go_wp2
  go_loopw [3, 4] (fun vo vi wr => ∃ (i m : Nat) (ao : Option Addr) (ca : Nat), i ≤ ls.length ∧ vi = .int .i64 i ∧ vo = .slice ao m ca ∧ TxRel w ls i ao ca m wr) (fun _ vi _ => ls.length - (intOf vi).toNat)
  case atStart => exact ⟨0, 0, none, 0, Nat.zero_le _, rfl, rfl, ⟨OwnB.nil _ _ _, rfl, Below.refl _ _⟩⟩
  case round =>
    obtain ⟨i, m, ao, ca, hil, rfl, rfl, hR⟩ := hrel
    have HR := Hid.mk' hR
    have hm : m ≤ 11000 := by have := flat_le ls i; rw [hR.len] at this; omega
    clear hR
    by_cases hlt : i < ls.length
    · obtain ⟨bb, oo, rfl, _⟩ := HB.out.lit (by omega)
      obtain ⟨bo, bc, hbc, hat⟩ := HB.out.at_ i hlt
      have hlt' : (i : Int) < ls.length := by omega
      have hc0 := (hat wr HR.out.below).1
      have HAt := Hid.mk' hat
      have hx2 := at_le ls i hlt
      have HS := Hid.mk' (flat_snoc ls i hlt)
      clear hat
      generalize ls[i] = x at *
      have HOx : Hid (Ck.one x = if x = [] then [] else Ch.hexF 5 x.length ++ [13, 10] ++ x ++ [13, 10]) := rfl
      by_cases hx0 : x = []
      · subst hx0
        have HE : Hid ((ls.take (i + 1)).flatMap Ck.one = (ls.take i).flatMap Ck.one) := by
          have := HS.out; unfold Hid; rw [this]; simp [Ck.one]
        clear HS HOx
        go_wp2
        go_roundw
        case rel => exact ⟨i + 1, m, ao, ca, by omega, by go_num, rfl, ⟨by rw [HE.out]; exact HR.out.own, by rw [HE.out]; exact HR.out.len, HR.out.below⟩⟩
        case measure => simp [intOf]; omega
      · have hxl : 0 < x.length := List.length_pos_iff.2 hx0
        have t0 : decide ((x.length : Int) > 0) = true := decide_eq_true (by omega)
        have HA := Hid.mk' (hexText_f 5 x.length wr (by omega) (by omega) (by omega))
        have HO1 : Hid (Ck.one x = Ch.hexF 5 x.length ++ [13, 10] ++ x ++ [13, 10]) := by have := HOx.out; rw [if_neg hx0] at this; exact this
        have hh := (Ch.hexF_length 5 x.length).1
        clear HOx
        generalize hhx : Ch.hexF 5 x.length = hx at *
        generalize hpre : (ls.take i).flatMap Ck.one = pre at *
        have HPre := Hid.mk' hpre
        clear hhx hpre
        have HPl : Hid (pre.length = m) := by have := HR.out.len; rw [HPre.out] at this; exact this
        have HO0 : Hid (OwnB wr w.heap.size 5 ao ca pre) := by have := HR.out.own; rw [HPre.out] at this; exact this
        have HB0 := Hid.mk' HR.out.below
        clear HR
        have hz : (⟨hx.toArray⟩ ++ ⟨#[13, 10]⟩ : ByteArray).size = hx.length + 2 := by rw [ByteArray.size_append]; rfl
        have hdt : (⟨hx.toArray⟩ ++ ⟨#[13, 10]⟩ : ByteArray).data.toList = hx ++ [13, 10] := by rw [Ch.data_append]
        go_wp2_with fail
        refine HA.out.mono ?_
        rintro e w1 ⟨rfl, hw⟩
        subst hw
        clear HA
        go_wp2_with (first
          | (at_builtin; refine wpList_append_s rfl (.tmp 17) (.tmp 24) 36 9 rfl w.heap.size 5 i0 Tryd.underlying36 Tryd.underlying9 Hi.out Hz0.out Hz1.out Hz2.out (l := pre) rfl HPl.out HO0.out (⟨hx.toArray⟩ ++ ⟨#[13, 10]⟩) rfl (by rw [hz]; omega) HB0.out.size ?_; intro ao2 ca2 w2 hO2 hG2; rw [hdt] at hO2; rw [hz]; have HO2 := Hid.mk' hO2; have HB2 := Hid.mk' (HB0.out.trans (grown_base HO0.out hG2 HB0.out.size)); have hc2 := (HAt.out _ HB2.out).1; clear hO2 hG2)
          | (at_builtin; refine wpList_append_at rfl (.tmp 26) (.tmp 30) 36 rfl w.heap.size 5 i0 Tryd.underlying36 Hi.out Hz0.out Hz1.out Hz2.out (l := pre ++ (hx ++ [13, 10])) (l2 := x) rfl (by rw [List.length_append, List.length_append, HPl.out]; rfl) HO2.out rfl rfl (HAt.out _ HB2.out).2 (by show _ ≤ _; omega) HB2.out.size ?_; intro ao3 ca3 w3 hO3 hG3 _; have HO3 := Hid.mk' hO3; have HB3 := Hid.mk' (HB2.out.trans (grown_base HO2.out hG3 HB2.out.size)); clear hO3 hG3)
          | (at_builtin; refine wpList_append_s rfl (.tmp 32) (.const (.string ⟨#[13, 10]⟩)) 36 9 rfl w.heap.size 5 i0 Tryd.underlying36 Tryd.underlying9 Hi.out Hz0.out Hz1.out Hz2.out (l := pre ++ (hx ++ [13, 10]) ++ x) rfl (by rw [List.length_append, List.length_append, List.length_append, HPl.out]; rfl) HO3.out ⟨#[13, 10]⟩ rfl (by show _ + 2 ≤ _; omega) HB3.out.size ?_; intro ao4 ca4 w4 hO4 hG4; have HO4 := Hid.mk' hO4; have HB4 := Hid.mk' (HB3.out.trans (grown_base HO3.out hG4 HB3.out.size)); clear hO4 hG4))
        go_roundw
        case rel =>
          have e : (ls.take (i + 1)).flatMap Ck.one = pre ++ (hx ++ [13, 10]) ++ x ++ [13, 10] := by rw [HS.out, HO1.out]; simp
          refine ⟨i + 1, m + (hx.length + 2) + x.length + 2, ao4, ca4, by omega, by go_num, rfl, ⟨by rw [e]; exact HO4.out, ?_, HB4.out⟩⟩
          rw [e]
          simp only [List.length_append, HPl.out]
          rfl
        case measure => simp [intOf]; omega
    · obtain rfl : i = ls.length := by omega
      have HX : Hid (Ck.text ls = (ls.take ls.length).flatMap Ck.one ++ [48, 13, 10, 13, 10]) := by unfold Hid Ck.text; rw [List.take_length]
      generalize hpre : (ls.take ls.length).flatMap Ck.one = pre at *
      have HPl := Hid.mk' HR.out.len; have HO1 := Hid.mk' HR.out.own; have HB1 := Hid.mk' HR.out.below
      rw [hpre] at HPl HO1
      clear hpre HR
      go_wp2_with (at_builtin; refine wpList_append_s rfl (.tmp 34) (.const (.string ⟨#[48, 13, 10, 13, 10]⟩)) 36 9 rfl w.heap.size 5 i0 Tryd.underlying36 Tryd.underlying9 Hi.out Hz0.out Hz1.out Hz2.out (l := pre) rfl HPl.out HO1.out ⟨#[48, 13, 10, 13, 10]⟩ rfl (by show _ + 5 ≤ _; omega) HB1.out.size ?_; intro ao2 ca2 w2 hO2 hG2; have HO2 := Hid.mk' hO2; have HB2 := Hid.mk' (HB1.out.trans (grown_base HO1.out hG2 HB1.out.size)); clear hO2 hG2)
      go_ret
      exact ⟨ao2, ca2, by rw [HX.out, List.length_append, HPl.out]; rfl, by rw [HX.out]; exact HO2.out, HB2.out⟩
end Go.Proofs.YtnacbfeijakipabDoor
