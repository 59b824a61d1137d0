/- The one input that the statements of a log try first, walked. -/
import Derived.Test.YtankilclhknbkaaJrD
import Derived.Test.YtankilclhknbkaaJrH
import Derived.Test.YtankilclhknbkaaMemKp
import Derived.Lib.SlBytesConst
namespace Go.Proofs.Ytankilclhknbkaa
open Go.RowKit

def begE : Jn.E := ⟨2, 1, -1, [120]⟩
theorem begE_fits : Jn.fits begE = true := by decide
theorem num_at {m : Nat} (h : m < 128) : Jn.num m = [UInt8.ofNat m] := Jn.num_small h
theorem begE_enc : Jn.enc begE = [5, 3, 2, 0, 120] := by
  have h1 : Jn.nb 2 = [3] := num_at (by decide)
  have h2 : Jn.nb 1 = [2] := num_at (by decide)
  have h3 : Jn.nb (-1) = [0] := num_at (by decide)
  have h4 : Jn.inn begE = [3, 2, 0, 120] := by
    show Jn.nb 2 ++ Jn.nb 1 ++ Jn.nb (-1) ++ [120] = _
    rw [h1, h2, h3]; rfl
  unfold Jn.enc
  rw [h4, num_at (by decide)]
  rfl
theorem begE_out : encOut begE = ([5, 3, 2, 0, 120], 0) := by
  unfold encOut; rw [if_pos begE_fits, begE_enc]
theorem begE_dec : Jn.dec [5, 3, 2, 0, 120, 9] = ([begE], 5) := by
  have e : ([5, 3, 2, 0, 120, 9] : List UInt8) = Jn.enc begE ++ [9] := by rw [begE_enc]; rfl
  rw [e, Jn.dec_some (Jn.one_enc begE_fits _), List.drop_left, Jn.dec_none, begE_enc]
  · rfl
  · simp [Jn.one, Jn.rn, Jn.rd, Jn.rdG]

set_option maxRecDepth 100000 in
set_option maxHeartbeats 2000000 in
theorem journalBegun_any (w : World) :
    Calls Try.prog 7 #[] w fun e w' => e = .returned (.bool true) ∧ Below w.heap.size w w' := by
  obtain ⟨i0, hi0, hz0, hz1, hz2⟩ := info_parts info_u8
  have Hi := Hid.mk' hi0; have Hz0 := Hid.mk' hz0; have Hz1 := Hid.mk' hz1; have Hz2 := Hid.mk' hz2
  clear hi0 hz0 hz1 hz2
  have kc := fun (w : World) (C : Array Value) (n c : Nat) => Lib.run_convert_bytes_const (P := Try.prog) w 22 5 C n c Try.underlying22 Try.underlying5
  have hbA : Below w.heap.size w (w.alloc (.cells #[.int .u8 120] 5 (1, 2))) := (Below.refl _ w).alloc (Nat.le_refl _) _
  have HEn : Hid (Calls Try.prog 8 #[.agg #[.int .i64 2, .int .i64 1, .int .i64 (-1), .slice (some ⟨w.heap.size, 0, none⟩) 1 1]] (w.alloc (.cells #[.int .u8 120] 5 (1, 2))) fun e w' => ∃ ao cap, e = .returned (.tuple #[.slice ao 5 cap, .int .i64 0]) ∧ OwnB w' w.heap.size 5 ao cap [5, 3, 2, 0, 120] ∧ Below w.heap.size w w') := (encode_any begE (some ⟨w.heap.size, 0, none⟩) 1 1 _ (IsB.one w 120 _ _) rfl).mono fun e w' h => by
    obtain ⟨ao, cap, h1, h2, h3⟩ := h
    rw [begE_out] at h1 h2
    exact ⟨ao, cap, h1, h2.mono hbA.size, hbA.trans (h3.mono hbA.size)⟩
  clear hbA
  go_enter Try.func7, Try.ntmps7
  go_upto_region 2 with (go_at_call 8; refine HEn.out.mono ?_; rintro e w2 ⟨ao, cap, rfl, hO, hB⟩; have HO := Hid.mk' hO; have HB := Hid.mk' hB; clear hO hB)
  have HDc : Hid (∀ W aa ca, IsB W aa ca [5, 3, 2, 0, 120, 9] → Calls Try.prog 11 #[.slice aa 6 ca] W fun e w' => ∃ bb cb, e = .returned (.tuple #[.slice (some ⟨bb, 0, none⟩) 1 cb, .int .i64 5]) ∧ w'.cell? ⟨bb, 2, none⟩ = some (.int .i64 (-1)) ∧ Below W.heap.size W w') := fun W aa ca h => (decode_any [5, 3, 2, 0, 120, 9] aa ca 6 W h rfl (by decide)).mono fun e w' hp => by
    obtain ⟨ao, ca, h1, h2, h3⟩ := hp
    rw [begE_dec] at h1 h2
    obtain ⟨us, hu, hO, _, _⟩ := h2
    have h4 : IsEns w' ao ca [begE] := by
      have := (show EnsAt w' (fun k => W.heap.size ≤ k) 24 ao ca [begE] from ⟨us, hu, hO, by assumption, by assumption⟩).isEns
      exact this
    obtain ⟨b, o, s, e1, c0, c1, c2, c3, _⟩ := h4.at_ 0 (by decide)
    have ho : o = 0 := by
      rcases hO.2 with ⟨e2, h0⟩ | ⟨g, cap', cur, e2, _⟩
      · simp at h0
      · injection e2 with e2 _ _
        rw [e1] at e2; injection e2 with e2; injection e2 with _ e3 _
    subst ho
    refine ⟨b, ca, by rw [h1, e1]; rfl, ?_, h3⟩
    simpa [begE] using c2
  go_upto_region 3 with (first
    | (at_builtin; refine wpList_append_keep rfl (.tmp 13) (.tmp 14) 22 rfl w.heap.size 5 i0 Try.underlying22 Hi.out Hz0.out Hz1.out Hz2.out (l := [5, 3, 2, 0, 120]) (l2 := [9]) rfl rfl (HO.out.alloc _) rfl rfl (IsB.one w2 9 _ _) (by decide) (by rw [World.size_alloc]; have := HB.out.size; omega) ?_; intro ao3 ca3 w3 hO3 hG3 hI3; have HO3 := Hid.mk' hO3; have HI3 := Hid.mk' hI3; have HB3 := Hid.mk' ((HB.out.alloc HB.out.size (.cells #[.int .u8 9] 5)).trans (grown_base (HO.out.alloc _) hG3 (by rw [World.size_alloc]; have := HB.out.size; omega))); clear hO3 hG3 hI3)
    | (go_at_call 11; refine (HDc.out _ _ _ HO3.out.isB).mono ?_; rintro e w4 ⟨bb, cb, rfl, hc2, hB4⟩; have HI4 := Hid.mk' (HI3.out.stay hB4); have HB4 := Hid.mk' (HB3.out.trans (hB4.mono HB3.out.size)); clear hB4))
  have q1 := HI4.out.str (P := Try.prog) 22 9 5 Try.underlying22 Try.underlying5 Try.underlying9
  have q2 : (convert 22 9 (.slice ao 5 cap)).run Try.prog w4 = .ok (.string ⟨#[5, 3, 2, 0, 120]⟩) w4 := q1
  have q3 : ((⟨#[5, 3, 2, 0, 120]⟩ : ByteArray).toList == (⟨#[5, 3, 2, 0, 120]⟩ : ByteArray).toList) = true := beq_self_eq_true _
  clear q1
  go_wp2
  go_ret
  exact ⟨rfl, HB4.out⟩
end Go.Proofs.Ytankilclhknbkaa
