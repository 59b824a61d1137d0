/- ChunksDoes, walked: every Feed and Write against the document's own answer. -/
import Derived.Test.YtnacbfeijakipabDoorCkBegun
import Derived.Test.YtnacbfeijakipabDoorPk17
namespace Go.Proofs.YtnacbfeijakipabDoor
open Go.RowKit

theorem chunksDoes_great (ab al : Option Addr) (n cap m capl : Nat) (w : World) (hT : TzAt w) (h : 9000 < n ∨ 50 < m) :
    Calls Tryd.prog 5 #[.slice ab n cap, .slice al m capl] w fun e w' => e = .returned (.bool true) ∧ Below w.heap.size w w' := by
  have HBg := Hid.mk' (chunksBegun_any w hT)
  clear hT
  by_cases h1 : 9000 < n
  · have t1 : decide ((n : Int) > 9000) = true := decide_eq_true (by omega)
    go_enter Tryd.func5, Tryd.ntmps5
    go_wp2_with fail
    refine HBg.out.mono ?_
    rintro e w1 ⟨rfl, hb1⟩
    go_wp2
    go_ret
    exact ⟨rfl, hb1⟩
  · have t1 : decide ((n : Int) > 9000) = false := decide_eq_false (by omega)
    have t2 : decide ((m : Int) > 50) = true := decide_eq_true (by omega)
    go_enter Tryd.func5, Tryd.ntmps5
    go_wp2_with fail
    refine HBg.out.mono ?_
    rintro e w1 ⟨rfl, hb1⟩
    go_wp2
    go_ret
    exact ⟨rfl, hb1⟩

theorem flat_at (ls : List (List UInt8)) (i : Nat) (hi : i < ls.length) : (ls.take (i + 1)).flatten.length = (ls.take i).flatten.length + ls[i].length := by
  rw [List.take_succ_eq_append_getElem hi, List.flatten_append, List.length_append]; simp
theorem flat_bound (ls : List (List UInt8)) (hx : ∀ x ∈ ls, x.length ≤ reachBytes) : ∀ i, i ≤ ls.length → (ls.take i).flatten.length ≤ i * reachBytes
  | 0, _ => by simp
  | i + 1, hi => by
    have h1 := flat_bound ls hx i (by omega)
    have h2 := hx ls[i] (List.getElem_mem (by omega))
    rw [flat_at ls i (by omega), Nat.succ_mul]; omega

set_option maxRecDepth 100000 in
set_option maxHeartbeats 4000000 in
theorem chunksDoes_main (b : List UInt8) (ab : Option Addr) (cap : Nat) (ls : List (List UInt8)) (al : Option Addr) (capl : Nat) (w : World) (hb : IsB w ab cap b) (hl : IsL w al capl ls) (hT : TzAt w) (h9 : b.length ≤ 9000) (h50 : ls.length ≤ 50) (hx : ∀ x ∈ ls, x.length ≤ reachBytes) :
    Calls Tryd.prog 5 #[.slice ab b.length cap, .slice al ls.length capl] w fun e w' => e = .returned (.bool true) ∧ Below w.heap.size w w' := by
  have t1 : decide ((b.length : Int) > 9000) = false := decide_eq_false (by omega)
  have t2 : decide ((ls.length : Int) > 50) = false := decide_eq_false (by omega)
  have HBg := Hid.mk' (chunksBegun_any w hT)
  have HT := Hid.mk' hT; have HB := Hid.mk' hb; have HL := Hid.mk' hl
  have hcap := hb.1
  have hcapl := hl.1
  have hfb := flat_bound ls hx
  have HFB := Hid.mk' hfb
  have hreach : reachBytes = 140737488351232 := by decide
  clear hT hb hl hfb
  go_enter Tryd.func5, Tryd.ntmps5
  go_wp2_with fail
  refine HBg.out.mono ?_
  rintro e w1 ⟨rfl, hb1⟩
  have B1 := Hid.mk' hb1
  have T1 := Hid.mk' (HT.out.stay hb1); have L1 := Hid.mk' (HL.out.stay hb1); have I1 := Hid.mk' (HB.out.stay hb1)
  clear HBg hb1 HT HL HB
  go_wp2
  go_loopw [5, 6] (fun vn vi wr => ∃ i : Nat, i ≤ ls.length ∧ vi = .int .i64 i ∧ vn = .int .i64 ((ls.take i).flatten.length : Int) ∧ wr = w1) (fun _ vi _ => ls.length - (intOf vi).toNat)
  case atStart => exact ⟨0, Nat.zero_le _, rfl, rfl, rfl⟩
  case round =>
    obtain ⟨i, hi, rfl, rfl, hw⟩ := hrel
    subst hw
    by_cases hlt : i < ls.length
    · obtain ⟨bb, oo, rfl, _⟩ := L1.out.lit (by omega)
      obtain ⟨bo, bc, hbc, hat⟩ := L1.out.at_ i hlt
      have hc0 := (hat _ (Below.refl _ _)).1
      have hlt' : (i : Int) < ls.length := by omega
      have HS := Hid.mk' (flat_at ls i hlt)
      have h1 := HFB.out i hi
      have h2 := hx ls[i] (List.getElem_mem hlt)
      have h3 : i * reachBytes ≤ 50 * reachBytes := Nat.mul_le_mul_right _ (by omega)
      rw [hreach] at h1 h2 h3
      clear hat
      generalize ls[i] = x at *
      generalize (ls.take i).flatten.length = fl at *
      go_wp2
      go_roundw
      case rel => exact ⟨i + 1, by omega, by go_num, by rw [HS.out]; go_num, trivial⟩
      case measure => simp [intOf]; omega
    · obtain rfl : i = ls.length := by omega
      rw [List.take_length]
      by_cases hbig : 10000 < ls.flatten.length
      · have tb : decide ((ls.flatten.length : Int) > 10000) = true := decide_eq_true (by omega)
        generalize ls.flatten.length = fl at *
        go_wp2
        go_ret
        exact ⟨rfl, B1.out⟩
      · have tb : decide ((ls.flatten.length : Int) > 10000) = false := decide_eq_false (by omega)
        have HW := Hid.mk' (write_any _ al capl ls L1.out (by omega) (by omega) T1.out)
        have HX := Hid.mk' (fun W (hW : Below wr.heap.size wr W) => chunksText_any W al capl ls (L1.out.stay hW) (by omega) (by omega))
        clear hx hi HFB
        generalize ls.flatten.length = fl at *
        go_wp2_with fail
        refine HW.out.mono ?_
        rintro e w2 ⟨ao2, ca2, he, hO2, hB2⟩
        subst he
        have O2 := Hid.mk' hO2; have B2 := Hid.mk' hB2
        clear hO2 hB2 HW
        go_wp2_with fail
        refine (HX.out _ B2.out).mono ?_
        rintro e w3 ⟨ao3, ca3, he, hO3, hB3⟩
        subst he
        have HSm := Hid.mk' (sameBytes_any w3 ao2 ao3 ca2 ca3 _ _ (Ck.text ls) (Ck.text ls) rfl rfl (O2.out.isB.stay hB3) hO3.isB)
        rw [decide_eq_true rfl] at HSm
        have B3 := Hid.mk' (then_ B2.out hB3)
        clear hO3 hB3 HX O2 B2
        generalize (Ck.text ls).length = tn at *
        go_wp2_with fail
        refine HSm.out.mono ?_
        rintro e w4 ⟨rfl, hw⟩
        subst hw
        clear HSm
        have HCo := Hid.mk' (chunksOf_any b ab cap w4 (I1.out.stay B3.out) h9)
        have hus := Ck.of_used b
        have hta := Ck.told_at b
        have hbody := Ck.told_body b
        unfold ChOut at HCo
        generalize (Ck.of b).used = U at *
        generalize (Ck.of b).over = O at *
        generalize (Ck.of b).code = K at *
        generalize (Ck.of b).body = body at *
        have HTa := Hid.mk' hta; have HBo := Hid.mk' hbody; have HUs := Hid.mk' hus
        clear hta hbody hus
        go_wp2_with fail
        refine HCo.out.mono ?_
        rintro e w5 ⟨aoB, caB, he, hIB, hB5⟩
        subst he
        have IB := Hid.mk' hIB; have B5 := Hid.mk' (then_ B3.out hB5)
        have I5 := Hid.mk' (I1.out.stay B5.out)
        have HNw := Hid.mk' (newCk_in w5)
        have HBw := Hid.mk' (then_ B1.out B5.out)
        clear hIB hB5 HCo B3 B5 I1
        go_wp2_with fail
        refine HNw.out.mono ?_
        rintro e w6 ⟨g, rfl, hC⟩
        have HC := Hid.mk' hC
        clear hC HNw
        obtain ⟨i0, hi0, hz0, hz1, hz2⟩ := info_parts info_u8
        have Hi := Hid.mk' hi0; have Hz0 := Hid.mk' hz0; have Hz1 := Hid.mk' hz1; have Hz2 := Hid.mk' hz2
        clear hi0 hz0 hz1 hz2 L1 T1
        go_wp2
        go_loopw [12, 13] (fun vg vi wr2 => ∃ (i : Nat) (ao : Option Addr) (ca : Nat), i ≤ b.length ∧ vi = .int .i64 i ∧ vg = .slice ao (Ck.outs Ck.start (b.take i)).length ca ∧ CkIn w5 g (Ck.fold Ck.start (b.take i)) ao ca (Ck.outs Ck.start (b.take i)) wr2) (fun _ vi _ => b.length - (intOf vi).toNat)
        case atStart => exact ⟨0, none, 0, Nat.zero_le _, rfl, rfl, HC.out⟩
        case round =>
          clear HC
          obtain ⟨i, ao, ca, hi, rfl, rfl, hK⟩ := hrel
          have HK := Hid.mk' hK
          clear hK
          by_cases hlt : i < b.length
          · obtain ⟨bb, oo, rfl, _⟩ := I5.out.lit (by omega)
            have hcell := ((I5.out.stay HK.out.below).cell i hlt)
            rw [Addr.add_lit] at hcell
            have hlt' : (i : Int) < b.length := by omega
            obtain ⟨hcd, hov⟩ := HTa.out i hlt
            obtain ⟨ht1, ht2⟩ := Ck.take_at b i hlt
            have HF := Hid.mk' (HK.out.feed b[i])
            have hgl := Ck.outs_le (b.take i) Ck.start
            rw [List.length_take] at hgl
            have hxl := Ck.out_len (Ck.fold Ck.start (b.take i)) b[i]
            have hx0 := Ck.out_code (s := Ck.fold Ck.start (b.take i)) (c := b[i])
            rw [hov] at HF
            have HT1 := Hid.mk' ht1; have HT2 := Hid.mk' ht2
            clear ht1 ht2 hov HTa
            generalize (Ck.next (Ck.fold Ck.start (b.take i)) b[i]).code = cd at *
            generalize hxx : Ck.out (Ck.fold Ck.start (b.take i)) b[i] = x at *
            generalize b[i] = c at *
            generalize hgg : Ck.outs Ck.start (b.take i) = got at *
            have HUs' := HUs.out
            have hgl' : got.length ≤ 9000 := by omega
            have tx : decide ((x.length : Int) > 1) = false := decide_eq_false (by omega)
            clear hxx hgg hgl
            by_cases hKz : K = 0
            · cases O
              · rcases Nat.lt_trichotomy (i + 1) U with hU | hU | hU
                · have tK : ((K : Int) != 0) = false := by rw [hKz]; rfl
                  have tA : decide ((i : Int) ≥ (U : Int) - 1) = false := decide_eq_false (by omega)
                  have tB : decide ((i : Int) ≥ U) = false := decide_eq_false (by omega)
                  have tC : ((i : Int) == (U : Int) - 1) = false := by rw [beq_eq_false_iff_ne]; omega
                  have hov : decide (false = true ∧ i + 1 = U) = false := by simp
                  rw [hov] at HF
                  obtain rfl : cd = 0 := by rw [hcd, if_neg (fun e => e.1 hKz), if_neg (fun e => by cases e.1)]
                  clear hcd hov hx0 HUs' hKz
                  go_wp2_with fail
                  refine HF.out.mono ?_
                  rintro e w7 ⟨bo, bc, rfl, hI7, hK7⟩
                  have K7 := Hid.mk' hK7; have I7 := Hid.mk' hI7; have S7 := Hid.mk' (Nat.le_trans hK7.below.size (Nat.le_refl _))
                  clear hK7 hI7 HF HK hcell
                  go_wp2_with (at_builtin; refine wpList_append_at rfl (.tmp 122) (.tmp 123) 36 rfl w5.heap.size 5 i0 Tryd.underlying36 Hi.out Hz0.out Hz1.out Hz2.out (l := got) (l2 := x) rfl rfl K7.out.own rfl rfl I7.out (by omega) S7.out ?_; intro ao8 ca8 w8 hO8 hG8 hA8; have K8 := Hid.mk' (K7.out.grow hO8 hG8 hA8); clear hO8 hG8 hA8)
                  go_roundw
                  case rel => exact ⟨i + 1, ao8, ca8, by omega, by go_num, by rw [HT2.out, List.length_append], by rw [HT1.out, HT2.out]; exact K8.out⟩
                  case measure => simp [intOf]; omega
                · have tK : ((K : Int) != 0) = false := by rw [hKz]; rfl
                  have tA : decide ((i : Int) ≥ (U : Int) - 1) = true := decide_eq_true (by omega)
                  have tB : decide ((i : Int) ≥ U) = false := decide_eq_false (by omega)
                  have tC : ((i : Int) == (U : Int) - 1) = true := by rw [beq_iff_eq]; omega
                  have hov : decide (false = true ∧ i + 1 = U) = false := by simp
                  rw [hov] at HF
                  obtain rfl : cd = 0 := by rw [hcd, if_neg (fun e => e.1 hKz), if_neg (fun e => by cases e.1)]
                  clear hcd hov hx0 HUs' hKz
                  go_wp2_with fail
                  refine HF.out.mono ?_
                  rintro e w7 ⟨bo, bc, rfl, hI7, hK7⟩
                  have K7 := Hid.mk' hK7; have I7 := Hid.mk' hI7; have S7 := Hid.mk' (Nat.le_trans hK7.below.size (Nat.le_refl _))
                  clear hK7 hI7 HF HK hcell
                  go_wp2_with (at_builtin; refine wpList_append_at rfl (.tmp 122) (.tmp 123) 36 rfl w5.heap.size 5 i0 Tryd.underlying36 Hi.out Hz0.out Hz1.out Hz2.out (l := got) (l2 := x) rfl rfl K7.out.own rfl rfl I7.out (by omega) S7.out ?_; intro ao8 ca8 w8 hO8 hG8 hA8; have K8 := Hid.mk' (K7.out.grow hO8 hG8 hA8); clear hO8 hG8 hA8)
                  go_roundw
                  case rel => exact ⟨i + 1, ao8, ca8, by omega, by go_num, by rw [HT2.out, List.length_append], by rw [HT1.out, HT2.out]; exact K8.out⟩
                  case measure => simp [intOf]; omega
                · have tK : ((K : Int) != 0) = false := by rw [hKz]; rfl
                  have tA : decide ((i : Int) ≥ (U : Int) - 1) = true := decide_eq_true (by omega)
                  have tB : decide ((i : Int) ≥ U) = true := decide_eq_true (by omega)
                  have tC : ((i : Int) == (U : Int) - 1) = false := by rw [beq_eq_false_iff_ne]; omega
                  have hov : decide (false = true ∧ i + 1 = U) = false := by simp
                  rw [hov] at HF
                  obtain rfl : cd = 0 := by rw [hcd, if_neg (fun e => e.1 hKz), if_neg (fun e => by cases e.1)]
                  clear hcd hov hx0 HUs' hKz
                  go_wp2_with fail
                  refine HF.out.mono ?_
                  rintro e w7 ⟨bo, bc, rfl, hI7, hK7⟩
                  have K7 := Hid.mk' hK7; have I7 := Hid.mk' hI7; have S7 := Hid.mk' (Nat.le_trans hK7.below.size (Nat.le_refl _))
                  clear hK7 hI7 HF HK hcell
                  go_wp2_with (at_builtin; refine wpList_append_at rfl (.tmp 122) (.tmp 123) 36 rfl w5.heap.size 5 i0 Tryd.underlying36 Hi.out Hz0.out Hz1.out Hz2.out (l := got) (l2 := x) rfl rfl K7.out.own rfl rfl I7.out (by omega) S7.out ?_; intro ao8 ca8 w8 hO8 hG8 hA8; have K8 := Hid.mk' (K7.out.grow hO8 hG8 hA8); clear hO8 hG8 hA8)
                  go_roundw
                  case rel => exact ⟨i + 1, ao8, ca8, by omega, by go_num, by rw [HT2.out, List.length_append], by rw [HT1.out, HT2.out]; exact K8.out⟩
                  case measure => simp [intOf]; omega
              · rcases Nat.lt_trichotomy (i + 1) U with hU | hU | hU
                · have tK : ((K : Int) != 0) = false := by rw [hKz]; rfl
                  have hUb : U ≤ 9000 := by have := (HUs' (Or.inr rfl)).2; omega
                  have tA : decide ((i : Int) ≥ (U : Int) - 1) = false := decide_eq_false (by omega)
                  have tB : decide ((i : Int) ≥ U) = false := decide_eq_false (by omega)
                  have tC : ((i : Int) == (U : Int) - 1) = false := by rw [beq_eq_false_iff_ne]; omega
                  have hov : decide (true = true ∧ i + 1 = U) = false := by simp <;> omega
                  rw [hov] at HF
                  obtain rfl : cd = 0 := by rw [hcd, if_neg (fun e => e.1 hKz), if_neg (fun e => by have := e.2; omega)]
                  clear hcd hov hx0 HUs' hKz
                  go_wp2_with fail
                  refine HF.out.mono ?_
                  rintro e w7 ⟨bo, bc, rfl, hI7, hK7⟩
                  have K7 := Hid.mk' hK7; have I7 := Hid.mk' hI7; have S7 := Hid.mk' (Nat.le_trans hK7.below.size (Nat.le_refl _))
                  clear hK7 hI7 HF HK hcell
                  go_wp2_with (at_builtin; refine wpList_append_at rfl (.tmp 122) (.tmp 123) 36 rfl w5.heap.size 5 i0 Tryd.underlying36 Hi.out Hz0.out Hz1.out Hz2.out (l := got) (l2 := x) rfl rfl K7.out.own rfl rfl I7.out (by omega) S7.out ?_; intro ao8 ca8 w8 hO8 hG8 hA8; have K8 := Hid.mk' (K7.out.grow hO8 hG8 hA8); clear hO8 hG8 hA8)
                  go_roundw
                  case rel => exact ⟨i + 1, ao8, ca8, by omega, by go_num, by rw [HT2.out, List.length_append], by rw [HT1.out, HT2.out]; exact K8.out⟩
                  case measure => simp [intOf]; omega
                · have tK : ((K : Int) != 0) = false := by rw [hKz]; rfl
                  have hUb : U ≤ 9000 := by have := (HUs' (Or.inr rfl)).2; omega
                  have tA : decide ((i : Int) ≥ (U : Int) - 1) = true := decide_eq_true (by omega)
                  have tB : decide ((i : Int) ≥ U) = false := decide_eq_false (by omega)
                  have tC : ((i : Int) == (U : Int) - 1) = true := by rw [beq_iff_eq]; omega
                  have hov : decide (true = true ∧ i + 1 = U) = true := by simp <;> omega
                  rw [hov] at HF
                  obtain rfl : cd = 0 := by rw [hcd, if_neg (fun e => e.1 hKz), if_neg (fun e => by have := e.2; omega)]
                  clear hcd hov hx0 HUs' hKz
                  go_wp2_with fail
                  refine HF.out.mono ?_
                  rintro e w7 ⟨bo, bc, rfl, hI7, hK7⟩
                  have K7 := Hid.mk' hK7; have I7 := Hid.mk' hI7; have S7 := Hid.mk' (Nat.le_trans hK7.below.size (Nat.le_refl _))
                  clear hK7 hI7 HF HK hcell
                  go_wp2_with (at_builtin; refine wpList_append_at rfl (.tmp 122) (.tmp 123) 36 rfl w5.heap.size 5 i0 Tryd.underlying36 Hi.out Hz0.out Hz1.out Hz2.out (l := got) (l2 := x) rfl rfl K7.out.own rfl rfl I7.out (by omega) S7.out ?_; intro ao8 ca8 w8 hO8 hG8 hA8; have K8 := Hid.mk' (K7.out.grow hO8 hG8 hA8); clear hO8 hG8 hA8)
                  go_roundw
                  case rel => exact ⟨i + 1, ao8, ca8, by omega, by go_num, by rw [HT2.out, List.length_append], by rw [HT1.out, HT2.out]; exact K8.out⟩
                  case measure => simp [intOf]; omega
                · have tK : ((K : Int) != 0) = false := by rw [hKz]; rfl
                  have hUb : U ≤ 9000 := by have := (HUs' (Or.inr rfl)).2; omega
                  have tA : decide ((i : Int) ≥ (U : Int) - 1) = true := decide_eq_true (by omega)
                  have tB : decide ((i : Int) ≥ U) = true := decide_eq_true (by omega)
                  have tC : ((i : Int) == (U : Int) - 1) = false := by rw [beq_eq_false_iff_ne]; omega
                  have hov : decide (true = true ∧ i + 1 = U) = false := by simp <;> omega
                  rw [hov] at HF
                  obtain rfl : cd = 18 := by rw [hcd, if_neg (fun e => e.1 hKz), if_pos ⟨rfl, by omega⟩]
                  obtain rfl : x = [] := hx0 (by omega)
                  clear hcd hov hx0 HUs' hKz
                  go_wp2_with fail
                  refine HF.out.mono ?_
                  rintro e w7 ⟨bo, bc, rfl, hI7, hK7⟩
                  have K7 := Hid.mk' hK7; have I7 := Hid.mk' hI7; have S7 := Hid.mk' (Nat.le_trans hK7.below.size (Nat.le_refl _))
                  clear hK7 hI7 HF HK hcell
                  go_wp2_with (at_builtin; refine wpList_append_at rfl (.tmp 122) (.tmp 123) 36 rfl w5.heap.size 5 i0 Tryd.underlying36 Hi.out Hz0.out Hz1.out Hz2.out (l := got) (l2 := []) rfl rfl K7.out.own rfl rfl I7.out (by simp; omega) S7.out ?_; intro ao8 ca8 w8 hO8 hG8 hA8; have K8 := Hid.mk' (K7.out.grow hO8 hG8 hA8); clear hO8 hG8 hA8)
                  go_roundw
                  case rel => exact ⟨i + 1, ao8, ca8, by omega, by go_num, by rw [HT2.out, List.length_append] <;> rfl, by rw [HT1.out, HT2.out]; exact K8.out⟩
                  case measure => simp [intOf]; omega
            · cases O
              · rcases Nat.lt_trichotomy (i + 1) U with hU | hU | hU
                · have tK : ((K : Int) != 0) = true := by rw [bne_iff_ne]; omega
                  have hUb : U ≤ 9000 := by have := (HUs' (Or.inl hKz)).2; omega
                  have tA : decide ((i : Int) ≥ (U : Int) - 1) = false := decide_eq_false (by omega)
                  have tB : decide ((i : Int) ≥ U) = false := decide_eq_false (by omega)
                  have tC : ((i : Int) == (U : Int) - 1) = false := by rw [beq_eq_false_iff_ne]; omega
                  have hov : decide (false = true ∧ i + 1 = U) = false := by simp
                  rw [hov] at HF
                  obtain rfl : cd = 0 := by rw [hcd, if_neg (fun e => by have := e.2; omega), if_neg (fun e => by cases e.1)]
                  clear hcd hov hx0 HUs' hKz
                  go_wp2_with fail
                  refine HF.out.mono ?_
                  rintro e w7 ⟨bo, bc, rfl, hI7, hK7⟩
                  have K7 := Hid.mk' hK7; have I7 := Hid.mk' hI7; have S7 := Hid.mk' (Nat.le_trans hK7.below.size (Nat.le_refl _))
                  clear hK7 hI7 HF HK hcell
                  go_wp2_with (at_builtin; refine wpList_append_at rfl (.tmp 122) (.tmp 123) 36 rfl w5.heap.size 5 i0 Tryd.underlying36 Hi.out Hz0.out Hz1.out Hz2.out (l := got) (l2 := x) rfl rfl K7.out.own rfl rfl I7.out (by omega) S7.out ?_; intro ao8 ca8 w8 hO8 hG8 hA8; have K8 := Hid.mk' (K7.out.grow hO8 hG8 hA8); clear hO8 hG8 hA8)
                  go_roundw
                  case rel => exact ⟨i + 1, ao8, ca8, by omega, by go_num, by rw [HT2.out, List.length_append], by rw [HT1.out, HT2.out]; exact K8.out⟩
                  case measure => simp [intOf]; omega
                · have tK : ((K : Int) != 0) = true := by rw [bne_iff_ne]; omega
                  have hUb : U ≤ 9000 := by have := (HUs' (Or.inl hKz)).2; omega
                  have tA : decide ((i : Int) ≥ (U : Int) - 1) = true := decide_eq_true (by omega)
                  have tB : decide ((i : Int) ≥ U) = false := decide_eq_false (by omega)
                  have tC : ((i : Int) == (U : Int) - 1) = true := by rw [beq_iff_eq]; omega
                  have hov : decide (false = true ∧ i + 1 = U) = false := by simp
                  rw [hov] at HF
                  obtain rfl : cd = K := by rw [hcd, if_pos ⟨hKz, by omega⟩]
                  obtain rfl : x = [] := hx0 (by omega)
                  clear hcd hov hx0 HUs' hKz
                  go_wp2_with fail
                  refine HF.out.mono ?_
                  rintro e w7 ⟨bo, bc, rfl, hI7, hK7⟩
                  have K7 := Hid.mk' hK7; have I7 := Hid.mk' hI7; have S7 := Hid.mk' (Nat.le_trans hK7.below.size (Nat.le_refl _))
                  clear hK7 hI7 HF HK hcell
                  go_wp2_with (at_builtin; refine wpList_append_at rfl (.tmp 122) (.tmp 123) 36 rfl w5.heap.size 5 i0 Tryd.underlying36 Hi.out Hz0.out Hz1.out Hz2.out (l := got) (l2 := []) rfl rfl K7.out.own rfl rfl I7.out (by simp; omega) S7.out ?_; intro ao8 ca8 w8 hO8 hG8 hA8; have K8 := Hid.mk' (K7.out.grow hO8 hG8 hA8); clear hO8 hG8 hA8)
                  go_roundw
                  case rel => exact ⟨i + 1, ao8, ca8, by omega, by go_num, by rw [HT2.out, List.length_append] <;> rfl, by rw [HT1.out, HT2.out]; exact K8.out⟩
                  case measure => simp [intOf]; omega
                · have tK : ((K : Int) != 0) = true := by rw [bne_iff_ne]; omega
                  have hUb : U ≤ 9000 := by have := (HUs' (Or.inl hKz)).2; omega
                  have tA : decide ((i : Int) ≥ (U : Int) - 1) = true := decide_eq_true (by omega)
                  have tB : decide ((i : Int) ≥ U) = true := decide_eq_true (by omega)
                  have tC : ((i : Int) == (U : Int) - 1) = false := by rw [beq_eq_false_iff_ne]; omega
                  have hov : decide (false = true ∧ i + 1 = U) = false := by simp
                  rw [hov] at HF
                  obtain rfl : cd = K := by rw [hcd, if_pos ⟨hKz, by omega⟩]
                  obtain rfl : x = [] := hx0 (by omega)
                  clear hcd hov hx0 HUs' hKz
                  go_wp2_with fail
                  refine HF.out.mono ?_
                  rintro e w7 ⟨bo, bc, rfl, hI7, hK7⟩
                  have K7 := Hid.mk' hK7; have I7 := Hid.mk' hI7; have S7 := Hid.mk' (Nat.le_trans hK7.below.size (Nat.le_refl _))
                  clear hK7 hI7 HF HK hcell
                  go_wp2_with (at_builtin; refine wpList_append_at rfl (.tmp 122) (.tmp 123) 36 rfl w5.heap.size 5 i0 Tryd.underlying36 Hi.out Hz0.out Hz1.out Hz2.out (l := got) (l2 := []) rfl rfl K7.out.own rfl rfl I7.out (by simp; omega) S7.out ?_; intro ao8 ca8 w8 hO8 hG8 hA8; have K8 := Hid.mk' (K7.out.grow hO8 hG8 hA8); clear hO8 hG8 hA8)
                  go_roundw
                  case rel => exact ⟨i + 1, ao8, ca8, by omega, by go_num, by rw [HT2.out, List.length_append] <;> rfl, by rw [HT1.out, HT2.out]; exact K8.out⟩
                  case measure => simp [intOf]; omega
              · rcases Nat.lt_trichotomy (i + 1) U with hU | hU | hU
                · have tK : ((K : Int) != 0) = true := by rw [bne_iff_ne]; omega
                  have hUb : U ≤ 9000 := by have := (HUs' (Or.inl hKz)).2; omega
                  have tA : decide ((i : Int) ≥ (U : Int) - 1) = false := decide_eq_false (by omega)
                  have tB : decide ((i : Int) ≥ U) = false := decide_eq_false (by omega)
                  have tC : ((i : Int) == (U : Int) - 1) = false := by rw [beq_eq_false_iff_ne]; omega
                  have hov : decide (true = true ∧ i + 1 = U) = false := by simp <;> omega
                  rw [hov] at HF
                  obtain rfl : cd = 0 := by rw [hcd, if_neg (fun e => by have := e.2; omega), if_neg (fun e => by have := e.2; omega)]
                  clear hcd hov hx0 HUs' hKz
                  go_wp2_with fail
                  refine HF.out.mono ?_
                  rintro e w7 ⟨bo, bc, rfl, hI7, hK7⟩
                  have K7 := Hid.mk' hK7; have I7 := Hid.mk' hI7; have S7 := Hid.mk' (Nat.le_trans hK7.below.size (Nat.le_refl _))
                  clear hK7 hI7 HF HK hcell
                  go_wp2_with (at_builtin; refine wpList_append_at rfl (.tmp 122) (.tmp 123) 36 rfl w5.heap.size 5 i0 Tryd.underlying36 Hi.out Hz0.out Hz1.out Hz2.out (l := got) (l2 := x) rfl rfl K7.out.own rfl rfl I7.out (by omega) S7.out ?_; intro ao8 ca8 w8 hO8 hG8 hA8; have K8 := Hid.mk' (K7.out.grow hO8 hG8 hA8); clear hO8 hG8 hA8)
                  go_roundw
                  case rel => exact ⟨i + 1, ao8, ca8, by omega, by go_num, by rw [HT2.out, List.length_append], by rw [HT1.out, HT2.out]; exact K8.out⟩
                  case measure => simp [intOf]; omega
                · have tK : ((K : Int) != 0) = true := by rw [bne_iff_ne]; omega
                  have hUb : U ≤ 9000 := by have := (HUs' (Or.inl hKz)).2; omega
                  have tA : decide ((i : Int) ≥ (U : Int) - 1) = true := decide_eq_true (by omega)
                  have tB : decide ((i : Int) ≥ U) = false := decide_eq_false (by omega)
                  have tC : ((i : Int) == (U : Int) - 1) = true := by rw [beq_iff_eq]; omega
                  have hov : decide (true = true ∧ i + 1 = U) = true := by simp <;> omega
                  rw [hov] at HF
                  obtain rfl : cd = K := by rw [hcd, if_pos ⟨hKz, by omega⟩]
                  obtain rfl : x = [] := hx0 (by omega)
                  clear hcd hov hx0 HUs' hKz
                  go_wp2_with fail
                  refine HF.out.mono ?_
                  rintro e w7 ⟨bo, bc, rfl, hI7, hK7⟩
                  have K7 := Hid.mk' hK7; have I7 := Hid.mk' hI7; have S7 := Hid.mk' (Nat.le_trans hK7.below.size (Nat.le_refl _))
                  clear hK7 hI7 HF HK hcell
                  go_wp2_with (at_builtin; refine wpList_append_at rfl (.tmp 122) (.tmp 123) 36 rfl w5.heap.size 5 i0 Tryd.underlying36 Hi.out Hz0.out Hz1.out Hz2.out (l := got) (l2 := []) rfl rfl K7.out.own rfl rfl I7.out (by simp; omega) S7.out ?_; intro ao8 ca8 w8 hO8 hG8 hA8; have K8 := Hid.mk' (K7.out.grow hO8 hG8 hA8); clear hO8 hG8 hA8)
                  go_roundw
                  case rel => exact ⟨i + 1, ao8, ca8, by omega, by go_num, by rw [HT2.out, List.length_append] <;> rfl, by rw [HT1.out, HT2.out]; exact K8.out⟩
                  case measure => simp [intOf]; omega
                · have tK : ((K : Int) != 0) = true := by rw [bne_iff_ne]; omega
                  have hUb : U ≤ 9000 := by have := (HUs' (Or.inl hKz)).2; omega
                  have tA : decide ((i : Int) ≥ (U : Int) - 1) = true := decide_eq_true (by omega)
                  have tB : decide ((i : Int) ≥ U) = true := decide_eq_true (by omega)
                  have tC : ((i : Int) == (U : Int) - 1) = false := by rw [beq_eq_false_iff_ne]; omega
                  have hov : decide (true = true ∧ i + 1 = U) = false := by simp <;> omega
                  rw [hov] at HF
                  obtain rfl : cd = K := by rw [hcd, if_pos ⟨hKz, by omega⟩]
                  obtain rfl : x = [] := hx0 (by omega)
                  clear hcd hov hx0 HUs' hKz
                  go_wp2_with fail
                  refine HF.out.mono ?_
                  rintro e w7 ⟨bo, bc, rfl, hI7, hK7⟩
                  have K7 := Hid.mk' hK7; have I7 := Hid.mk' hI7; have S7 := Hid.mk' (Nat.le_trans hK7.below.size (Nat.le_refl _))
                  clear hK7 hI7 HF HK hcell
                  go_wp2_with (at_builtin; refine wpList_append_at rfl (.tmp 122) (.tmp 123) 36 rfl w5.heap.size 5 i0 Tryd.underlying36 Hi.out Hz0.out Hz1.out Hz2.out (l := got) (l2 := []) rfl rfl K7.out.own rfl rfl I7.out (by simp; omega) S7.out ?_; intro ao8 ca8 w8 hO8 hG8 hA8; have K8 := Hid.mk' (K7.out.grow hO8 hG8 hA8); clear hO8 hG8 hA8)
                  go_roundw
                  case rel => exact ⟨i + 1, ao8, ca8, by omega, by go_num, by rw [HT2.out, List.length_append] <;> rfl, by rw [HT1.out, HT2.out]; exact K8.out⟩
                  case measure => simp [intOf]; omega
          · obtain rfl : i = b.length := by omega
            rw [List.take_length, HBo.out] at HK ⊢
            have HSm := Hid.mk' (sameBytes_any _ ao aoB ca caB _ _ body body rfl rfl HK.out.own.isB (IB.out.stay HK.out.below))
            rw [decide_eq_true rfl] at HSm
            go_wp2_with fail
            refine HSm.out.mono ?_
            rintro e w7 ⟨rfl, hw⟩
            subst hw
            go_wp2
            go_ret
            exact ⟨rfl, then_ HBw.out HK.out.below⟩
end Go.Proofs.YtnacbfeijakipabDoor
