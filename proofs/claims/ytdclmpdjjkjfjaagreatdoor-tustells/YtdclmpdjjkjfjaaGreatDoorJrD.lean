/- Package journal, walked: Encode. -/
import Derived.Test.YtdclmpdjjkjfjaaGreatDoorPk13
import Derived.Test.YtdclmpdjjkjfjaaGreatDoorJrB
import Derived.Deep.DeepCutAuto
namespace Go.Proofs.YtdclmpdjjkjfjaaGreatDoor
open Go.RowKit

/-- what is answered of an entry that is to be written -/
def encOut (x : Jn.E) : List UInt8 × Nat := if Jn.fits x = true then (Jn.enc x, 0) else ([], 1)
/-- the numbers of an entry, so many of them -/
def pre (x : Jn.E) : Nat → List UInt8
  | 0 => []
  | 1 => Jn.nb x.kind
  | 2 => Jn.nb x.kind ++ Jn.nb x.id
  | _ => Jn.head x
def EncPost (w : World) (x : Jn.E) (e : Ending) (w' : World) : Prop := ∃ ao cap, e = .returned (.tuple #[.slice ao (encOut x).1.length cap, .int .i64 ((encOut x).2 : Int)]) ∧ OwnB w' w.heap.size 5 ao cap (encOut x).1 ∧ Below w.heap.size w w'
theorem cells4 {w W : World} {a b c d : Value} {t B : Nat} (hB : w.heap.size < B) (h : Below B (w.alloc (.cells #[a, b, c, d] t)) W) : W.cell? ⟨w.heap.size, 0, none⟩ = some a ∧ W.cell? ⟨w.heap.size, 1, none⟩ = some b ∧ W.cell? ⟨w.heap.size, 2, none⟩ = some c ∧ W.cell? ⟨w.heap.size, 3, none⟩ = some d := by
  refine ⟨?_, ?_, ?_, ?_⟩
  · rw [h.cell (p := ⟨w.heap.size, 0, none⟩) hB]; exact World.cell?_alloc_mark w _ _ _ 0
  · rw [h.cell (p := ⟨w.heap.size, 1, none⟩) hB]; exact World.cell?_alloc_mark w _ _ _ 1
  · rw [h.cell (p := ⟨w.heap.size, 2, none⟩) hB]; exact World.cell?_alloc_mark w _ _ _ 2
  · rw [h.cell (p := ⟨w.heap.size, 3, none⟩) hB]; exact World.cell?_alloc_mark w _ _ _ 3

theorem index3 (W : World) (a b c : Value) :
    (Instr.index 144 (.agg #[a, b, c]) (.int .i64 0)).run Tryz.prog W = .ok a W ∧
    (Instr.index 144 (.agg #[a, b, c]) (.int .i64 1)).run Tryz.prog W = .ok b W ∧
    (Instr.index 144 (.agg #[a, b, c]) (.int .i64 2)).run Tryz.prog W = .ok c W := by
  refine ⟨by kernel_rfl, by kernel_rfl, by kernel_rfl⟩

set_option maxRecDepth 100000 in
set_option maxHeartbeats 2000000 in
theorem encode_any (x : Jn.E) (ta : Option Addr) (tn tc : Nat) (w : World) (hT : IsB w ta tc x.text) (hn : x.text.length = tn) :
    Calls Tryz.prog 143 #[.agg #[.int .i64 x.kind, .int .i64 x.id, .int .i64 x.n, .slice ta tn tc]] w fun e w' => EncPost w x e w' := by
  have hb1 : Below w.heap.size w (w.alloc (.cells #[.int .i64 x.kind, .int .i64 x.id, .int .i64 x.n, .slice ta tn tc] 121)) := (Below.refl _ w).alloc (Nat.le_refl _) _
  have HF := Hid.mk' (fitsJ_any x ta tn tc hn (w.alloc (.cells #[.int .i64 x.kind, .int .i64 x.id, .int .i64 x.n, .slice ta tn tc] 121)))
  have hsz : (w.alloc (.cells #[.int .i64 x.kind, .int .i64 x.id, .int .i64 x.n, .slice ta tn tc] 121)).heap.size = w.heap.size + 1 := by simp
  have HC : Hid (∀ W, Below (w.heap.size + 1) (w.alloc (.cells #[.int .i64 x.kind, .int .i64 x.id, .int .i64 x.n, .slice ta tn tc] 121)) W → W.cell? ⟨w.heap.size, 0, none⟩ = some (.int .i64 x.kind) ∧ W.cell? ⟨w.heap.size, 1, none⟩ = some (.int .i64 x.id) ∧ W.cell? ⟨w.heap.size, 2, none⟩ = some (.int .i64 x.n) ∧ W.cell? ⟨w.heap.size, 3, none⟩ = some (.slice ta tn tc)) := fun W h => cells4 (by omega) h
  rw [hsz] at HF
  have HT : Hid (∀ W, Below (w.heap.size + 1) (w.alloc (.cells #[.int .i64 x.kind, .int .i64 x.id, .int .i64 x.n, .slice ta tn tc] 121)) W → IsB W ta tc x.text) := fun W h => hT.stay (hb1.trans (h.mono (by omega)))
  have HB0 : Hid (∀ W, Below (w.heap.size + 1) (w.alloc (.cells #[.int .i64 x.kind, .int .i64 x.id, .int .i64 x.n, .slice ta tn tc] 121)) W → Below w.heap.size w W) := fun W h => hb1.trans (h.mono (by omega))
  obtain ⟨i0, hi0, hz0, hz1, hz2⟩ := info_parts info_u8
  have Hi := Hid.mk' hi0; have Hz0 := Hid.mk' hz0; have Hz1 := Hid.mk' hz1; have Hz2 := Hid.mk' hz2
  clear hT hi0 hz0 hz1 hz2 hb1
  have HSz := Hid.mk' hsz
  clear hsz
  cases hf : Jn.fits x with
  | false =>
    rw [hf] at HF
    have HE : Hid (encOut x = ([], 1)) := by unfold Hid encOut; rw [if_neg (by simp [hf])]
    clear hf
    go_enter Tryz.func143, Tryz.ntmps143
    go_wp2_with (go_at_call 129; refine HF.out.mono ?_; rintro e w2 ⟨rfl, hb2⟩; have HB2 := Hid.mk' hb2; clear hb2)
    go_ret2
    exact ⟨none, 0, by rw [HE.out]; rfl, by rw [HE.out]; exact OwnB.nil _ _ _, HB0.out _ HB2.out⟩
  | true =>
    rw [hf] at HF
    have HE : Hid (encOut x = (Jn.enc x, 0)) := by unfold Hid encOut; rw [if_pos hf]
    obtain ⟨k1, k2, k3, k4⟩ := (Jn.fits_iff x).1 hf
    have hhl := Jn.head_len hf
    have hil := Jn.inn_len hf
    rw [hn] at k4
    have hin : (Jn.inn x).length = (Jn.head x).length + tn := by rw [Jn.inn, List.length_append, hn]
    have HEnc : Hid (Jn.enc x = Jn.num ((Jn.head x).length + tn + 1) ++ Jn.head x ++ x.text) := by
      unfold Hid Jn.enc; rw [hin, Jn.inn, List.append_assoc]
    have HTn := Hid.mk' hn
    clear hf hn hin
    go_enter Tryz.func143, Tryz.ntmps143
    go_upto_region 3 with (go_at_call 129; refine HF.out.mono ?_; rintro e w2 ⟨rfl, hb2⟩; have HB2 := Hid.mk' hb2; clear hb2)
    have HB1 := Hid.mk' (HB2.out)
    obtain ⟨c0, c1, c2, c3⟩ := HC.out _ HB2.out
    generalize w.alloc (.cells #[.int .i64 x.kind, .int .i64 x.id, .int .i64 x.n, .slice ta tn tc] 121) = w1 at *
    go_wp2
    have HPl : Hid (∀ i, (pre x i).length ≤ 15) := fun i => by
      have e : (Jn.head x).length = (Jn.nb x.kind).length + (Jn.nb x.id).length + (Jn.nb x.n).length := by simp [Jn.head, Nat.add_assoc]
      match i with
      | 0 => simp [pre]
      | 1 => simp only [pre]; omega
      | 2 => simp only [pre, List.length_append]; omega
      | (n + 3) => exact hhl
    go_loopw [4, 18] (fun vo vi wr => ∃ (i m : Nat) (ao : Option Addr) (ca : Nat), i ≤ 3 ∧ vi = .int .i64 i ∧ vo = .slice ao m ca ∧ OwnB wr (w.heap.size + 1) 5 ao ca (pre x i) ∧ (pre x i).length = m ∧ Below (w.heap.size + 1) w1 wr) (fun _ vi _ => 3 - (intOf vi).toNat)
    case atStart => exact ⟨0, 0, none, 0, by omega, rfl, rfl, OwnB.nil _ _ _, rfl, HB1.out⟩
    case round =>
      obtain ⟨i, m, ao, ca, hi, rfl, rfl, hO, hL, hB⟩ := hrel
      have HO := Hid.mk' hO; have HB := Hid.mk' hB; have HL := Hid.mk' hL
      have hm : m ≤ 15 := by have := HPl.out i; omega
      clear hO hB hL
      rcases (show i = 0 ∨ i = 1 ∨ i = 2 ∨ i = 3 by omega) with rfl | rfl | rfl | rfl
      · have HN : Hid (∀ W ao ca m, OwnB W (w.heap.size + 1) 5 ao ca (pre x 0) → (pre x 0).length = m → m ≤ 15 → Below (w.heap.size + 1) w1 W → Calls Tryz.prog 158 #[.slice ao m ca, .int .i64 x.kind] W fun e w' => ∃ ao' cap', e = .returned (.slice ao' (m + (Jn.num (x.kind + 1).toNat).length) cap') ∧ OwnB w' (w.heap.size + 1) 5 ao' cap' (pre x 0 ++ Jn.num (x.kind + 1).toNat) ∧ Below (w.heap.size + 1) W w') := fun W ao ca m h1 h2 h3 h4 => appendNumber_any (x.kind + 1).toNat (by omega) (w.heap.size + 1) ao ca m _ W h1 h2 (by omega) (by have := h4.size; have := HSz.out; omega) x.kind (by omega)
        have hx := (index3 wr (.int .i64 x.kind) (.int .i64 x.id) (.int .i64 x.n)).1
        have HP : Hid (pre x 1 = pre x 0 ++ Jn.num (x.kind + 1).toNat) := rfl
        go_wp2_with (go_at_call 158; refine (HN.out _ _ _ _ HO.out HL.out hm HB.out).mono ?_; rintro e w3 ⟨ao3, ca3, rfl, hO3, hb3⟩; have HO3 := Hid.mk' hO3; have HB3 := Hid.mk' hb3; clear hO3 hb3)
        go_roundw
        case rel => exact ⟨1, _, ao3, ca3, by omega, rfl, rfl, by rw [HP.out]; exact HO3.out, by rw [HP.out, List.length_append, HL.out], HB.out.trans HB3.out⟩
        case measure => first | (simp [intOf]; done) | (simp [intOf]; omega)
      · have HN : Hid (∀ W ao ca m, OwnB W (w.heap.size + 1) 5 ao ca (pre x 1) → (pre x 1).length = m → m ≤ 15 → Below (w.heap.size + 1) w1 W → Calls Tryz.prog 158 #[.slice ao m ca, .int .i64 x.id] W fun e w' => ∃ ao' cap', e = .returned (.slice ao' (m + (Jn.num (x.id + 1).toNat).length) cap') ∧ OwnB w' (w.heap.size + 1) 5 ao' cap' (pre x 1 ++ Jn.num (x.id + 1).toNat) ∧ Below (w.heap.size + 1) W w') := fun W ao ca m h1 h2 h3 h4 => appendNumber_any (x.id + 1).toNat (by omega) (w.heap.size + 1) ao ca m _ W h1 h2 (by omega) (by have := h4.size; have := HSz.out; omega) x.id (by omega)
        have hx := (index3 wr (.int .i64 x.kind) (.int .i64 x.id) (.int .i64 x.n)).2.1
        have HP : Hid (pre x 2 = pre x 1 ++ Jn.num (x.id + 1).toNat) := rfl
        go_wp2_with (go_at_call 158; refine (HN.out _ _ _ _ HO.out HL.out hm HB.out).mono ?_; rintro e w3 ⟨ao3, ca3, rfl, hO3, hb3⟩; have HO3 := Hid.mk' hO3; have HB3 := Hid.mk' hb3; clear hO3 hb3)
        go_roundw
        case rel => exact ⟨2, _, ao3, ca3, by omega, rfl, rfl, by rw [HP.out]; exact HO3.out, by rw [HP.out, List.length_append, HL.out], HB.out.trans HB3.out⟩
        case measure => first | (simp [intOf]; done) | (simp [intOf]; omega)
      · have HN : Hid (∀ W ao ca m, OwnB W (w.heap.size + 1) 5 ao ca (pre x 2) → (pre x 2).length = m → m ≤ 15 → Below (w.heap.size + 1) w1 W → Calls Tryz.prog 158 #[.slice ao m ca, .int .i64 x.n] W fun e w' => ∃ ao' cap', e = .returned (.slice ao' (m + (Jn.num (x.n + 1).toNat).length) cap') ∧ OwnB w' (w.heap.size + 1) 5 ao' cap' (pre x 2 ++ Jn.num (x.n + 1).toNat) ∧ Below (w.heap.size + 1) W w') := fun W ao ca m h1 h2 h3 h4 => appendNumber_any (x.n + 1).toNat (by omega) (w.heap.size + 1) ao ca m _ W h1 h2 (by omega) (by have := h4.size; have := HSz.out; omega) x.n (by omega)
        have hx := (index3 wr (.int .i64 x.kind) (.int .i64 x.id) (.int .i64 x.n)).2.2
        have HP : Hid (pre x 3 = pre x 2 ++ Jn.num (x.n + 1).toNat) := rfl
        go_wp2_with (go_at_call 158; refine (HN.out _ _ _ _ HO.out HL.out hm HB.out).mono ?_; rintro e w3 ⟨ao3, ca3, rfl, hO3, hb3⟩; have HO3 := Hid.mk' hO3; have HB3 := Hid.mk' hb3; clear hO3 hb3)
        go_roundw
        case rel => exact ⟨3, _, ao3, ca3, by omega, rfl, rfl, by rw [HP.out]; exact HO3.out, by rw [HP.out, List.length_append, HL.out], HB.out.trans HB3.out⟩
        case measure => first | (simp [intOf]; done) | (simp [intOf]; omega)
      · obtain ⟨d0, d1, d2, d3⟩ := HC.out _ HB.out
        have HPh : Hid (pre x 3 = Jn.head x) := rfl
        rw [HPh.out] at HO HL
        have HSw : Hid (w.heap.size + 1 ≤ wr.heap.size) := by have := HB.out.size; have := HSz.out; unfold Hid; omega
        have HN : Hid (Calls Tryz.prog 158 #[.slice none 0 0, .int .i64 ((m : Int) + tn)] wr fun e w' => ∃ ao' cap', e = .returned (.slice ao' (Jn.num (m + tn + 1)).length cap') ∧ OwnB w' wr.heap.size 5 ao' cap' (Jn.num (m + tn + 1)) ∧ Below wr.heap.size wr w') := by
          have := appendNumber_any (m + tn + 1) (by omega) wr.heap.size none 0 0 [] wr (OwnB.nil _ _ _) rfl (by omega) (Nat.le_refl _) ((m : Int) + tn) (by omega)
          unfold Hid; simpa using this
        have hwr : IntKind.i64.wrap ((m : Int) + tn) = (m : Int) + tn := wrap_id (by omega) (by omega)
        have hnl : (Jn.num (m + tn + 1)).length ≤ 5 := Jn.num_len 4 _ (by omega)
        have HE2 : Hid (Jn.enc x = Jn.num (m + tn + 1) ++ Jn.head x ++ x.text) := by unfold Hid; rw [HEnc.out, HL.out]
        have HTx : Hid (x.text.length = tn) := HTn.out
        generalize Jn.num (m + tn + 1) = nm at *
        go_wp2_with (first
          | (go_at_call 158; refine HN.out.mono ?_; rintro e w3 ⟨ao3, ca3, rfl, hO3, hb3⟩; have HO3 := Hid.mk' hO3; have HB3 := Hid.mk' hb3; have HI3 := Hid.mk' (HO.out.isB.stay hb3); clear hO3 hb3)
          | (at_builtin; refine wpList_append_b rfl (.tmp 32) (.tmp 33) 30 rfl wr.heap.size 5 i0 Tryz.underlying30 Hi.out Hz0.out Hz1.out Hz2.out (l := nm) (l2 := Jn.head x) rfl rfl HO3.out rfl HL.out HI3.out (by omega) HB3.out.size ?_; intro ao4 ca4 w4 hO4 hG4; have hb4 := HB3.out.trans (grown_base HO3.out hG4 HB3.out.size); have HO4 := Hid.mk' hO4; have HB4 := Hid.mk' hb4; have HB4' := Hid.mk' (HB.out.trans (hb4.mono HSw.out)); obtain ⟨e0, e1, e2, e3⟩ := HC.out _ (HB.out.trans (hb4.mono HSw.out)); clear hO4 hG4 hb4)
          | (at_builtin; refine wpList_append_b rfl (.tmp 35) (.tmp 37) 30 rfl wr.heap.size 5 i0 Tryz.underlying30 Hi.out Hz0.out Hz1.out Hz2.out (l := nm ++ Jn.head x) (l2 := x.text) rfl (by rw [List.length_append, HL.out]) HO4.out rfl HTx.out (HT.out _ HB4'.out) (by omega) HB4.out.size ?_; intro ao5 ca5 w5 hO5 hG5; have hb5 := HB4.out.trans (grown_base HO4.out hG5 HB4.out.size); have HO5 := Hid.mk' hO5; have HB5 := Hid.mk' (HB.out.trans (hb5.mono HSw.out)); clear hO5 hG5 hb5))
        go_ret2
        exact ⟨ao5, ca5, by rw [HE.out, HE2.out, List.length_append, List.length_append, HL.out, HTx.out]; rfl, by rw [HE.out, HE2.out]; exact HO5.out.mono (by have := HSw.out; omega), HB0.out _ HB5.out⟩
end Go.Proofs.YtdclmpdjjkjfjaaGreatDoor
