/- Package request, walked: why a request can't be written. -/
import Derived.Test.YtkafbifogdoneacGreatDoorPk19
import Derived.Test.YtkafbifogdoneacGreatDoorPk24
import Derived.Test.YtkafbifogdoneacGreatDoorPk10
namespace Go.Proofs.YtkafbifogdoneacGreatDoor
open Go.RowKit

/-- why a request can't be written, whatever the texts of its fields are; nf, h: how many fields, and fields Host, there are; s, c: Content-Lengths and Transfer-Encodings -/
def Rq.faultN (tk tg : Bool) (nfirst nb nf s c h : Nat) : Nat :=
  if tk = false then 6 else if tg = false then 5 else if 200 < nfirst ∨ 4000 < nb then 4 else if 15 < nf then 8 else if 0 < s ∨ 0 < c then 12 else if h ≠ 1 then 13 else 0

set_option maxRecDepth 100000 in
set_option maxHeartbeats 2000000 in
theorem fault_any (w : World) (m t first : ByteArray) (mi ln : Int) (l : List (ByteArray × ByteArray)) (fo bo : Option Addr) (fcap nf nb bcap : Nat) (hl : IsV w fo fcap nf (pairV l)) (hn : l.length = nf) (hN : nf ≤ 1000000) (hs : ∀ p ∈ l, p.1.size ≤ 2000 ∧ p.2.size ≤ 2000) (hm : m.size ≤ 1000000) (ht : t.size ≤ 1000000) :
    Calls Tryz.prog 49 #[.agg #[.string m, .string t, .int .i64 mi, .slice fo nf fcap, .int .i64 ln], .string first, .slice bo nb bcap] w fun e w' => e = .returned (.int .i64 (Rq.faultN (Ch.isToken m.data.toList) (Rq.isTarget t.data.toList) first.size nb nf (Fd.vals bSize l).length (Fd.vals bCode l).length (Fd.vals bHost l).length : Int)) ∧ Below w.heap.size w w' := by
  have hb0 : Below w.heap.size w (w.alloc (.cells #[.string m, .string t, .int .i64 mi, .slice fo nf fcap, .int .i64 ln] 25)) := (Below.refl _ _).alloc (Nat.le_refl _) _
  have hV : ∀ W, Below (w.alloc (.cells #[.string m, .string t, .int .i64 mi, .slice fo nf fcap, .int .i64 ln] 25)).heap.size (w.alloc (.cells #[.string m, .string t, .int .i64 mi, .slice fo nf fcap, .int .i64 ln] 25)) W → IsV W fo fcap nf (pairV l) := fun W hW => (hl.stay hb0).stay hW
  have HTk := Hid.mk' (fun W => isToken_any m W (by unfold maxLen; omega))
  have HTg := Hid.mk' (fun W => isTarget_any t W ht)
  have HCs := Hid.mk' (fun W (hW : Below (w.alloc (.cells #[.string m, .string t, .int .i64 mi, .slice fo nf fcap, .int .i64 ln] 25)).heap.size (w.alloc (.cells #[.string m, .string t, .int .i64 mi, .slice fo nf fcap, .int .i64 ln] 25)) W) => count_any l cSize fo fcap nf W (hV W hW) hn hN hs (by decide))
  have HCc := Hid.mk' (fun W (hW : Below (w.alloc (.cells #[.string m, .string t, .int .i64 mi, .slice fo nf fcap, .int .i64 ln] 25)).heap.size (w.alloc (.cells #[.string m, .string t, .int .i64 mi, .slice fo nf fcap, .int .i64 ln] 25)) W) => count_any l cCode fo fcap nf W (hV W hW) hn hN hs (by decide))
  have HCh := Hid.mk' (fun W (hW : Below (w.alloc (.cells #[.string m, .string t, .int .i64 mi, .slice fo nf fcap, .int .i64 ln] 25)).heap.size (w.alloc (.cells #[.string m, .string t, .int .i64 mi, .slice fo nf fcap, .int .i64 ln] 25)) W) => count_any l cHost fo fcap nf W (hV W hW) hn hN hs (by decide))
  simp only [vals_size, vals_code, vals_host] at HCs HCc HCh
  have hc3 : (w.alloc (.cells #[.string m, .string t, .int .i64 mi, .slice fo nf fcap, .int .i64 ln] 25)).cell? ⟨w.heap.size, 3, none⟩ = some (.slice fo nf fcap) := by rw [World.cell?_alloc_mark]; rfl
  have HBx : Hid (∀ W, Below (w.alloc (.cells #[.string m, .string t, .int .i64 mi, .slice fo nf fcap, .int .i64 ln] 25)).heap.size (w.alloc (.cells #[.string m, .string t, .int .i64 mi, .slice fo nf fcap, .int .i64 ln] 25)) W → W.cell? ⟨w.heap.size, 3, none⟩ = some (.slice fo nf fcap)) := fun W hW => (hW.cell (World.block_lt_of_cell? _ _ hc3)).trans hc3
  have HB0 := Hid.mk' hb0
  have HR0 : Hid (Rq.faultN (Ch.isToken m.data.toList) (Rq.isTarget t.data.toList) first.size nb nf (Fd.vals bSize l).length (Fd.vals bCode l).length (Fd.vals bHost l).length = if Ch.isToken m.data.toList = false then 6 else if Rq.isTarget t.data.toList = false then 5 else if 200 < first.size ∨ 4000 < nb then 4 else if 15 < nf then 8 else if 0 < (Fd.vals bSize l).length ∨ 0 < (Fd.vals bCode l).length then 12 else if (Fd.vals bHost l).length ≠ 1 then 13 else 0) := rfl
  generalize Rq.faultN (Ch.isToken m.data.toList) (Rq.isTarget t.data.toList) first.size nb nf (Fd.vals bSize l).length (Fd.vals bCode l).length (Fd.vals bHost l).length = R at HR0 ⊢
  generalize (Fd.vals bSize l).length = vs at *
  generalize (Fd.vals bCode l).length = vc at *
  generalize (Fd.vals bHost l).length = vh at *
  generalize Ch.isToken m.data.toList = tk at *
  generalize Rq.isTarget t.data.toList = tg at *
  simp only [cSize] at HCs
  simp only [cCode] at HCc
  simp only [cHost] at HCh
  have hR := HR0.out
  clear hb0 hV hc3 hl hs hn HR0
  cases tk
  · rw [if_pos rfl] at hR
    have HR := Hid.mk' hR
    clear hR
    go_enter Tryz.func49, Tryz.ntmps49
    go_wp2_with fail
    refine (HTk.out _).mono ?_
    rintro e w1 ⟨rfl, hw⟩
    subst hw
    go_wp2
    go_ret
    exact ⟨ret_int (by rw [HR.out]; rfl), HB0.out⟩
  · rw [if_neg (by simp)] at hR
    cases tg
    · rw [if_pos rfl] at hR
      have HR := Hid.mk' hR
      clear hR
      go_enter Tryz.func49, Tryz.ntmps49
      go_wp2_with fail
      refine (HTk.out _).mono ?_
      rintro e w1 ⟨rfl, hw⟩
      subst hw
      go_wp2_with fail
      refine (HTg.out _).mono ?_
      rintro e w2 ⟨rfl, hb2⟩
      have HB2 := Hid.mk' hb2
      have k3 := HBx.out w2 hb2
      clear hb2
      go_wp2
      go_ret
      exact ⟨ret_int (by rw [HR.out]; rfl), HB0.out.trans (HB2.out.mono (by simp))⟩
    · rw [if_neg (by simp)] at hR
      by_cases h1 : 200 < first.size
      · have u1 : decide ((first.size : Int) > 200) = true := decide_eq_true (by omega)
        rw [if_pos (Or.inl h1)] at hR
        have HR := Hid.mk' hR
        clear hR
        go_enter Tryz.func49, Tryz.ntmps49
        go_wp2_with fail
        refine (HTk.out _).mono ?_
        rintro e w1 ⟨rfl, hw⟩
        subst hw
        go_wp2_with fail
        refine (HTg.out _).mono ?_
        rintro e w2 ⟨rfl, hb2⟩
        have HB2 := Hid.mk' hb2
        have k3 := HBx.out w2 hb2
        clear hb2
        go_wp2
        go_ret
        exact ⟨ret_int (by rw [HR.out]; rfl), HB0.out.trans (HB2.out.mono (by simp))⟩
      · have u1 : decide ((first.size : Int) > 200) = false := decide_eq_false (by omega)
        by_cases h2 : 4000 < nb
        · have u2 : decide ((nb : Int) > 4000) = true := decide_eq_true (by omega)
          rw [if_pos (Or.inr h2)] at hR
          have HR := Hid.mk' hR
          clear hR
          go_enter Tryz.func49, Tryz.ntmps49
          go_wp2_with fail
          refine (HTk.out _).mono ?_
          rintro e w1 ⟨rfl, hw⟩
          subst hw
          go_wp2_with fail
          refine (HTg.out _).mono ?_
          rintro e w2 ⟨rfl, hb2⟩
          have HB2 := Hid.mk' hb2
          have k3 := HBx.out w2 hb2
          clear hb2
          go_wp2
          go_ret
          exact ⟨ret_int (by rw [HR.out]; rfl), HB0.out.trans (HB2.out.mono (by simp))⟩
        · have u2 : decide ((nb : Int) > 4000) = false := decide_eq_false (by omega)
          rw [if_neg (fun e => by rcases e with e | e; exact h1 e; exact h2 e)] at hR
          by_cases h3 : 15 < nf
          · have u3 : decide ((nf : Int) > 15) = true := decide_eq_true (by omega)
            rw [if_pos h3] at hR
            have HR := Hid.mk' hR
            clear hR
            go_enter Tryz.func49, Tryz.ntmps49
            go_wp2_with fail
            refine (HTk.out _).mono ?_
            rintro e w1 ⟨rfl, hw⟩
            subst hw
            go_wp2_with fail
            refine (HTg.out _).mono ?_
            rintro e w2 ⟨rfl, hb2⟩
            have HB2 := Hid.mk' hb2
            have k3 := HBx.out w2 hb2
            clear hb2
            go_wp2
            go_ret
            exact ⟨ret_int (by rw [HR.out]; rfl), HB0.out.trans (HB2.out.mono (by simp))⟩
          · have u3 : decide ((nf : Int) > 15) = false := decide_eq_false (by omega)
            rw [if_neg h3] at hR
            by_cases h4 : 0 < vs
            · have u4 : decide ((vs : Int) > 0) = true := decide_eq_true (by omega)
              rw [if_pos (Or.inl h4)] at hR
              have HR := Hid.mk' hR
              clear hR
              go_enter Tryz.func49, Tryz.ntmps49
              go_wp2_with fail
              refine (HTk.out _).mono ?_
              rintro e w1 ⟨rfl, hw⟩
              subst hw
              go_wp2_with fail
              refine (HTg.out _).mono ?_
              rintro e w2 ⟨rfl, hb2⟩
              have HB2 := Hid.mk' hb2
              have k3 := HBx.out w2 hb2
              clear hb2
              go_wp2_with fail
              refine (HCs.out w2 HB2.out).mono ?_
              rintro e w3 ⟨rfl, hb3⟩
              have HB3 := Hid.mk' (then_ HB2.out hb3)
              have q3 := HBx.out w3 HB3.out
              clear hb3 k3
              go_wp2
              go_ret
              exact ⟨ret_int (by rw [HR.out]; rfl), HB0.out.trans (HB3.out.mono (by simp))⟩
            · have u4 : decide ((vs : Int) > 0) = false := decide_eq_false (by omega)
              by_cases h5 : 0 < vc
              · have u5 : decide ((vc : Int) > 0) = true := decide_eq_true (by omega)
                rw [if_pos (Or.inr h5)] at hR
                have HR := Hid.mk' hR
                clear hR
                go_enter Tryz.func49, Tryz.ntmps49
                go_wp2_with fail
                refine (HTk.out _).mono ?_
                rintro e w1 ⟨rfl, hw⟩
                subst hw
                go_wp2_with fail
                refine (HTg.out _).mono ?_
                rintro e w2 ⟨rfl, hb2⟩
                have HB2 := Hid.mk' hb2
                have k3 := HBx.out w2 hb2
                clear hb2
                go_wp2_with fail
                refine (HCs.out w2 HB2.out).mono ?_
                rintro e w3 ⟨rfl, hb3⟩
                have HB3 := Hid.mk' (then_ HB2.out hb3)
                have q3 := HBx.out w3 HB3.out
                clear hb3 k3
                go_wp2_with fail
                refine (HCc.out w3 HB3.out).mono ?_
                rintro e w4 ⟨rfl, hb4⟩
                have HB4 := Hid.mk' (then_ HB3.out hb4)
                have r3 := HBx.out w4 HB4.out
                clear hb4 q3
                go_wp2
                go_ret
                exact ⟨ret_int (by rw [HR.out]; rfl), HB0.out.trans (HB4.out.mono (by simp))⟩
              · have u5 : decide ((vc : Int) > 0) = false := decide_eq_false (by omega)
                rw [if_neg (fun e => by rcases e with e | e; exact h4 e; exact h5 e)] at hR
                by_cases h6 : vh = 1
                · have u6 : ((vh : Int) != 1) = false := by rw [bne_eq_false_iff_eq]; omega
                  rw [if_neg (fun e => e h6)] at hR
                  have HR := Hid.mk' hR
                  clear hR h6
                  go_enter Tryz.func49, Tryz.ntmps49
                  go_wp2_with fail
                  refine (HTk.out _).mono ?_
                  rintro e w1 ⟨rfl, hw⟩
                  subst hw
                  go_wp2_with fail
                  refine (HTg.out _).mono ?_
                  rintro e w2 ⟨rfl, hb2⟩
                  have HB2 := Hid.mk' hb2
                  have k3 := HBx.out w2 hb2
                  clear hb2
                  go_wp2_with fail
                  refine (HCs.out w2 HB2.out).mono ?_
                  rintro e w3 ⟨rfl, hb3⟩
                  have HB3 := Hid.mk' (then_ HB2.out hb3)
                  have q3 := HBx.out w3 HB3.out
                  clear hb3 k3
                  go_wp2_with fail
                  refine (HCc.out w3 HB3.out).mono ?_
                  rintro e w4 ⟨rfl, hb4⟩
                  have HB4 := Hid.mk' (then_ HB3.out hb4)
                  have r3 := HBx.out w4 HB4.out
                  clear hb4 q3
                  go_wp2_with fail
                  refine (HCh.out w4 HB4.out).mono ?_
                  rintro e w5 ⟨rfl, hb5⟩
                  have HB5 := Hid.mk' (then_ HB4.out hb5)
                  clear hb5 r3
                  go_wp2
                  go_ret
                  exact ⟨ret_int (by rw [HR.out]; rfl), HB0.out.trans (HB5.out.mono (by simp))⟩
                · have u6 : ((vh : Int) != 1) = true := by rw [bne_iff_ne]; omega
                  rw [if_pos h6] at hR
                  have HR := Hid.mk' hR
                  clear hR h6
                  go_enter Tryz.func49, Tryz.ntmps49
                  go_wp2_with fail
                  refine (HTk.out _).mono ?_
                  rintro e w1 ⟨rfl, hw⟩
                  subst hw
                  go_wp2_with fail
                  refine (HTg.out _).mono ?_
                  rintro e w2 ⟨rfl, hb2⟩
                  have HB2 := Hid.mk' hb2
                  have k3 := HBx.out w2 hb2
                  clear hb2
                  go_wp2_with fail
                  refine (HCs.out w2 HB2.out).mono ?_
                  rintro e w3 ⟨rfl, hb3⟩
                  have HB3 := Hid.mk' (then_ HB2.out hb3)
                  have q3 := HBx.out w3 HB3.out
                  clear hb3 k3
                  go_wp2_with fail
                  refine (HCc.out w3 HB3.out).mono ?_
                  rintro e w4 ⟨rfl, hb4⟩
                  have HB4 := Hid.mk' (then_ HB3.out hb4)
                  have r3 := HBx.out w4 HB4.out
                  clear hb4 q3
                  go_wp2_with fail
                  refine (HCh.out w4 HB4.out).mono ?_
                  rintro e w5 ⟨rfl, hb5⟩
                  have HB5 := Hid.mk' (then_ HB4.out hb5)
                  clear hb5 r3
                  go_wp2
                  go_ret
                  exact ⟨ret_int (by rw [HR.out]; rfl), HB0.out.trans (HB5.out.mono (by simp))⟩
end Go.Proofs.YtkafbifogdoneacGreatDoor
