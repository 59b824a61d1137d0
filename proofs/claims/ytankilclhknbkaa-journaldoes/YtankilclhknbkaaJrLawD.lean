/- JournalDoes, walked. -/
import Derived.Test.YtankilclhknbkaaJrBg
import Derived.Test.YtankilclhknbkaaJrO
import Derived.Test.YtankilclhknbkaaJrS
import Derived.Test.YtankilclhknbkaaRfEn
namespace Go.Proofs.Ytankilclhknbkaa
open Go.RowKit

set_option maxRecDepth 100000 in
set_option maxHeartbeats 4000000 in
theorem journalDoes_any (x : Jn.E) (ta : Option Addr) (tn tc : Nat) (bo : Option Addr) (n bc : Nat) (b : List UInt8) (w : World) (hT : IsB w ta tc x.text) (htn : x.text.length = tn) (hB : IsB w bo bc b) (hn : b.length = n) :
    Calls Try.prog 3 #[.agg #[.int .i64 x.kind, .int .i64 x.id, .int .i64 x.n, .slice ta tn tc], .slice bo n bc] w fun e w' => e = .returned (.bool true) ∧ Below w.heap.size w w' := by
  have hb1 : Below w.heap.size w (w.alloc (.cells #[.int .i64 x.kind, .int .i64 x.id, .int .i64 x.n, .slice ta tn tc] 24)) := (Below.refl _ w).alloc (Nat.le_refl _) _
  have hs1 : (w.alloc (.cells #[.int .i64 x.kind, .int .i64 x.id, .int .i64 x.n, .slice ta tn tc] 24)).heap.size = w.heap.size + 1 := by simp
  have HW : Hid (∀ W, Below (w.heap.size + 1) (w.alloc (.cells #[.int .i64 x.kind, .int .i64 x.id, .int .i64 x.n, .slice ta tn tc] 24)) W → (W.cell? ⟨w.heap.size, 0, none⟩ = some (.int .i64 x.kind) ∧ W.cell? ⟨w.heap.size, 1, none⟩ = some (.int .i64 x.id) ∧ W.cell? ⟨w.heap.size, 2, none⟩ = some (.int .i64 x.n) ∧ W.cell? ⟨w.heap.size, 3, none⟩ = some (.slice ta tn tc)) ∧ IsB W ta tc x.text ∧ IsB W bo bc b ∧ Below w.heap.size w W) := fun W hW =>
    have hbw := hb1.trans (hW.mono (by omega))
    ⟨cells4 (by omega) hW, hT.stay hbw, hB.stay hbw, hbw⟩
  have HBg := Hid.mk' (journalBegun_any (w.alloc (.cells #[.int .i64 x.kind, .int .i64 x.id, .int .i64 x.n, .slice ta tn tc] 24)))
  rw [hs1] at HBg
  have HZ := Hid.mk' hs1
  have HEn : Hid (∀ W, IsB W ta tc x.text → Calls Try.prog 8 #[.agg #[.int .i64 x.kind, .int .i64 x.id, .int .i64 x.n, .slice ta tn tc]] W fun e w' => ∃ ao cap, e = .returned (.tuple #[.slice ao (encOut x).1.length cap, .int .i64 ((encOut x).2 : Int)]) ∧ OwnB w' W.heap.size 5 ao cap (encOut x).1 ∧ Below W.heap.size W w') := fun W h => encode_any x ta tn tc W h htn
  have HEB : Hid (∀ W, IsB W ta tc x.text → Calls Try.prog 9 #[.agg #[.int .i64 x.kind, .int .i64 x.id, .int .i64 x.n, .slice ta tn tc]] W fun e w' => ∃ ao cap, e = .returned (.tuple #[.slice ao (encOut x).1.length cap, .int .i64 ((encOut x).2 : Int)]) ∧ OwnB w' W.heap.size 5 ao cap (encOut x).1 ∧ Below W.heap.size W w') := fun W h => entryBytes_any x ta tn tc W h htn
  have HEo := Hid.mk' (fun W => entryOf_any x.kind x.id x.n ta tn tc W)
  clear hT hB hb1 hs1
  generalize x.kind = kd at *
  generalize x.id = id at *
  generalize x.n = nn at *
  generalize x.text = tx at *
  generalize encOut x = eo at *
  obtain ⟨ec, cd⟩ := eo
  by_cases h1 : 20000 < n
  · have h1' : (20000 : Int) < n := by omega
    go_enter Try.func3, Try.ntmps3
    go_wp2_with (go_at_call 7; refine HBg.out.mono ?_; rintro e w2 ⟨rfl, hb2⟩; have HB2 := Hid.mk' hb2; clear hb2)
    go_ret
    exact ⟨rfl, (HW.out _ HB2.out).2.2.2⟩
  · have h1' : ¬ (20000 : Int) < n := by omega
    by_cases h2 : 20000 < tn
    · have h2' : (20000 : Int) < tn := by omega
      go_enter Try.func3, Try.ntmps3
      go_wp2_with (go_at_call 7; refine HBg.out.mono ?_; rintro e w2 ⟨rfl, hb2⟩; have HB2 := Hid.mk' hb2; obtain ⟨c0, c1, c2, c3⟩ := (HW.out _ hb2).1; clear hb2)
      go_ret
      exact ⟨rfl, (HW.out _ HB2.out).2.2.2⟩
    · have h2' : ¬ (20000 : Int) < tn := by omega
      have HDc : Hid (∀ W, IsB W bo bc b → Calls Try.prog 11 #[.slice bo n bc] W fun e w' => ∃ ao ca, e = .returned (.tuple #[.slice ao (Jn.dec b).1.length ca, .int .i64 ((Jn.dec b).2 : Int)]) ∧ EnsAt w' (fun k => W.heap.size ≤ k) 24 ao ca (Jn.dec b).1 ∧ Below W.heap.size W w') := fun W h => decode_any b bo bc n W h hn (by omega)
      have HDr : Hid (∀ W, IsB W bo bc b → Calls Try.prog 12 #[.slice bo n bc] W fun e w' => ∃ ao ca, e = .returned (.tuple #[.slice ao (Jn.dec b).1.length ca, .int .i64 ((Jn.dec b).2 : Int)]) ∧ EnsAt w' (fun k => W.heap.size ≤ k) 29 ao ca (Jn.dec b).1 ∧ Below W.heap.size W w') := fun W h => entriesR_any b bo bc n W h hn (by omega)
      have hdl : (Jn.dec b).1.length ≤ 20000 := by
        have := Jn.dec_back _ b (Nat.le_refl _); omega
      generalize Jn.dec b = db at *
      obtain ⟨dl, dn⟩ := db
      dsimp only at HEn HEB HDc HDr hdl
      have HLe : Hid (∃ e1, ec.length = e1) := ⟨_, rfl⟩
      have HS1 : Hid (∀ W a1 a2 c1 c2, IsB W a1 c1 ec → IsB W a2 c2 ec → Calls Try.prog 13 #[.slice a1 ec.length c1, .slice a2 ec.length c2] W fun e w' => e = .returned (.bool true) ∧ w' = W) := fun W a1 a2 c1 c2 g1 g2 => by
        have := sameBytes_any W a1 a2 c1 c2 ec.length ec.length ec ec rfl rfl g1 g2
        rw [decide_eq_true rfl] at this; exact this
      have HS2 : Hid (∀ W a1 a2 c1 c2, IsEns W a1 c1 dl → IsEns W a2 c2 dl → Calls Try.prog 14 #[.slice a1 dl.length c1, .slice a2 dl.length c2] W fun e w' => e = .returned (.bool true) ∧ Below W.heap.size W w') := fun W a1 a2 c1 c2 g1 g2 => (sameEns_yes dl a1 a2 c1 c2 dl.length W g1 g2 rfl (by omega)).mono fun e w' ⟨h1, h2⟩ => ⟨h1, drewN_below h2⟩
      generalize ec.length = el at *
      generalize dl.length = ll at *
      go_enter Try.func3, Try.ntmps3
      go_wp2_with (first
        | (go_at_call 7; refine HBg.out.mono ?_; rintro e w2 ⟨rfl, hb2⟩; have HB2 := Hid.mk' hb2; obtain ⟨⟨c0, c1, c2, c3⟩, hT2, _, _⟩ := HW.out _ hb2; have HT2 := Hid.mk' hT2; clear hb2 hT2)
        | (go_at_call 8; refine (HEn.out _ HT2.out).mono ?_; rintro e w3 ⟨ao3, ca3, rfl, hO3, hb3⟩; have hbx := HB2.out.trans (hb3.mono (by have := HB2.out.size; have := HZ.out; omega)); have HB3 := Hid.mk' hbx; have HI3 := Hid.mk' hO3.isB; obtain ⟨⟨d0, d1, d2, d3⟩, hT3, _, _⟩ := HW.out _ hbx; clear hb3 hO3 hbx hT3)
        | (go_at_call 10; refine (HEo.out _).mono ?_; rintro e w4 ⟨rfl, hb4⟩; have hbx := HB3.out.trans (hb4.mono (by have := HB3.out.size; have := HZ.out; omega)); have HB4 := Hid.mk' hbx; have HI4 := Hid.mk' (HI3.out.stay hb4); have HT4 := Hid.mk' (HW.out _ hbx).2.1; clear hb4 hbx)
        | (go_at_call 9; refine (HEB.out _ HT4.out).mono ?_; rintro e w5 ⟨ao5, ca5, rfl, hO5, hb5⟩; have hbx := HB4.out.trans (hb5.mono (by have := HB4.out.size; have := HZ.out; omega)); have HB5 := Hid.mk' hbx; have HI5a := Hid.mk' (HI4.out.stay hb5); have HI5b := Hid.mk' hO5.isB; have HT5 := Hid.mk' (HW.out _ hbx).2.2.1; clear hb5 hO5 hbx)
        | (go_at_call 11; refine (HDc.out _ HT5.out).mono ?_; rintro e w6 ⟨ao6, ca6, rfl, hO6, hb6⟩; have hbx := HB5.out.trans (hb6.mono (by have := HB5.out.size; have := HZ.out; omega)); have HB6 := Hid.mk' hbx; have HI6a := Hid.mk' (HI5a.out.stay hb6); have HI6b := Hid.mk' (HI5b.out.stay hb6); have HE6 := Hid.mk' hO6.isEns; have HT6 := Hid.mk' (HW.out _ hbx).2.2.1; clear hb6 hO6 hbx)
        | (go_at_call 12; refine (HDr.out _ HT6.out).mono ?_; rintro e w7 ⟨ao7, ca7, rfl, hO7, hb7⟩; have hbx := HB6.out.trans (hb7.mono (by have := HB6.out.size; have := HZ.out; omega)); have HB7 := Hid.mk' hbx; have HI7a := Hid.mk' (HI6a.out.stay hb7); have HI7b := Hid.mk' (HI6b.out.stay hb7); have HE7a := Hid.mk' (HE6.out.stay hb7); have HE7b := Hid.mk' hO7.isEns; clear hb7 hO7 hbx)
        | (go_at_call 13; refine (HS1.out _ _ _ _ _ HI7a.out HI7b.out).mono ?_; rintro e w8 ⟨rfl, hw⟩; rw [hw]; clear hw)
        | (go_at_call 14; refine (HS2.out _ _ _ _ _ HE7a.out HE7b.out).mono ?_; rintro e w9 ⟨rfl, hb9⟩; have HB9 := Hid.mk' hb9; clear hb9))
      go_ret
      exact ⟨rfl, (HW.out _ (HB7.out.trans (HB9.out.mono (by have := HB7.out.size; have := HZ.out; omega)))).2.2.2⟩
end Go.Proofs.Ytankilclhknbkaa
