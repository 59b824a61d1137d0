/- Package journal, walked: Decode. -/
import Derived.Test.YtankilclhknbkaaJrG
namespace Go.Proofs.Ytankilclhknbkaa
open Go.RowKit

theorem info_en : (Try.prog.info? 24).map (fun i => (i.zero, i.size, i.bytes)) = some (some (.agg #[.int .i64 0, .int .i64 0, .int .i64 0, .slice none 0 0]), 4, 48) := by kernel_rfl
/-- what a loop over entries keeps -/
structure DcAt (w : World) (tE : Nat) (b : List UInt8) (at_ : Nat) (ao : Option Addr) (ca : Nat) (l : List Jn.E) (W : World) : Prop where
  ens : EnsAt W (fun k => w.heap.size ≤ k) tE ao ca l
  le : at_ ≤ b.length
  few : l.length ≤ at_
  dec : Jn.dec b = (l ++ (Jn.dec (b.drop at_)).1, at_ + (Jn.dec (b.drop at_)).2)
  below : Below w.heap.size w W
theorem DcAt.start (w : World) (tE : Nat) (b : List UInt8) : DcAt w tE b 0 none 0 [] w := ⟨EnsAt.nil _ _ _, Nat.zero_le _, Nat.le_refl _, by simp, Below.refl _ _⟩
theorem DcAt.stop {w : World} {tE : Nat} {b : List UInt8} {at_ : Nat} {ao : Option Addr} {ca : Nat} {l : List Jn.E} {W : World} (h : DcAt w tE b at_ ao ca l W) (hn : Jn.one (b.drop at_) = none) : Jn.dec b = (l, at_) := by
  rw [h.dec, Jn.dec_none hn]; simp
theorem DcAt.more {w : World} {tE : Nat} {b : List UInt8} {at_ : Nat} {ao : Option Addr} {ca : Nat} {l : List Jn.E} {W W' : World} (h : DcAt w tE b at_ ao ca l W) {e : Jn.E} {s : Nat} (hn : Jn.one (b.drop at_) = some (e, s)) {ao' : Option Addr} {ca' : Nat} (hE : EnsAt W' (fun k => w.heap.size ≤ k) tE ao' ca' (l ++ [e])) (hb : Below w.heap.size w W') : DcAt w tE b (at_ + s) ao' ca' (l ++ [e]) W' := by
  have hle := Jn.one_le hn
  rw [List.length_drop] at hle
  have h1 := h.le
  have h2 := h.few
  refine ⟨hE, by omega, by rw [List.length_append]; simp; omega, ?_, hb⟩
  rw [h.dec, Jn.dec_some hn, List.drop_drop]
  simp only [List.append_assoc, List.cons_append, List.nil_append, Nat.add_assoc]
/-- what is answered of bytes -/
def DecPost (w : World) (tE : Nat) (b : List UInt8) (e : Ending) (w' : World) : Prop := ∃ ao ca, e = .returned (.tuple #[.slice ao (Jn.dec b).1.length ca, .int .i64 ((Jn.dec b).2 : Int)]) ∧ EnsAt w' (fun k => w.heap.size ≤ k) tE ao ca (Jn.dec b).1 ∧ Below w.heap.size w w'

set_option maxRecDepth 100000 in
set_option maxHeartbeats 2000000 in
theorem decode_any (b : List UInt8) (ao : Option Addr) (cap n : Nat) (w : World) (hB : IsB w ao cap b) (hn : b.length = n) (hN : n ≤ 1000000000) :
    Calls Try.prog 11 #[.slice ao n cap] w fun e w' => DecPost w 24 b e w' := by
  have HI : Hid (∀ W, Below w.heap.size w W → IsB W ao cap b) := fun W hW => hB.stay hW
  have hcap := hB.1
  obtain ⟨j0, hj0, hy0, hy1, hy2⟩ := info_parts info_en
  have Hj := Hid.mk' hj0; have Hy0 := Hid.mk' hy0; have Hy1 := Hid.mk' hy1; have Hy2 := Hid.mk' hy2
  clear hB hj0 hy0 hy1 hy2
  go_enter Try.func11, Try.ntmps11
  go_wp2
  go_loopw [4, 5] (fun vl va wr => ∃ (k : Nat) (ai : Option Addr) (ci : Nat) (l : List Jn.E) (m : Nat), l.length = m ∧ vl = .slice ai m ci ∧ va = .int .i64 k ∧ DcAt w 24 b k ai ci l wr) (fun _ va _ => n - (intOf va).toNat)
  case atStart => exact ⟨0, none, 0, [], 0, rfl, rfl, rfl, DcAt.start w _ b⟩
  case round =>
    obtain ⟨k, ai, ci, l, m, hm, rfl, rfl, hD⟩ := hrel
    have HD := Hid.mk' hD
    have hk := hD.le
    have hfew := hD.few
    clear hD
    have hk1 : (k : Int) ≤ n := by omega
    have hk2 : (k : Int) ≤ cap := by omega
    have HCut : Hid (∀ aj, (cap ≠ k → aj = ao.map (·.add k)) → IsB wr aj (cap - k) (b.drop k)) := fun aj haj => by
      have h1 := (HI.out wr HD.out.below).cut (ao' := aj) k b.length (by omega) (Nat.le_refl _) haj
      rwa [List.take_of_length_le (by rw [List.length_drop]; omega)] at h1
    cases ho : Jn.one (b.drop k) with
    | none =>
      have HX := Hid.mk' (HD.out.stop ho)
      have HRE : Hid (∀ aj, (cap ≠ k → aj = ao.map (·.add k)) → Calls Try.prog 26 #[.slice aj (n - k) (cap - k)] wr fun e w' => e = .returned (.tuple #[.agg #[.int .i64 0, .int .i64 0, .int .i64 0, .slice none 0 0], .int .i64 0]) ∧ Below wr.heap.size wr w') := fun aj haj => (readEntry_any (b.drop k) aj (cap - k) (n - k) wr (HCut.out aj haj) (by rw [List.length_drop, hn]) (by omega)).mono fun e w' h => by
        cases h with
        | no h1 h2 => exact ⟨rfl, h2⟩
        | yes q s ta tc h1 _ _ => rw [ho] at h1; cases h1
      clear ho HCut
      have HFin : Hid (∀ w3, Below wr.heap.size wr w3 → DecPost w 24 b (.returned (.tuple #[.slice ai m ci, .int .i64 (k : Int)])) (w3.alloc (.cells #[.int .i64 0, .int .i64 0, .int .i64 0, .slice none 0 0] 24))) := fun w3 hb3 => by
        have hb4 := hb3.alloc hb3.size (.cells #[.int .i64 0, .int .i64 0, .int .i64 0, .slice none 0 0] 24)
        exact ⟨ai, ci, by rw [HX.out, hm], by rw [HX.out]; exact HD.out.ens.stay hb4, then_ HD.out.below hb4⟩
      by_cases hck : cap = k
      · have HR2 := HRE.out ao (fun e => absurd hck e)
        have hnk : n - k = 0 := by omega
        have hckz : cap - k = 0 := by omega
        rw [hnk, hckz] at HR2
        have HR3 := Hid.mk' HR2
        clear HR2 HRE
        obtain rfl : n = k := by omega
        subst hck
        clear hnk hckz
        go_wp2_with (go_at_call 26; refine HR3.out.mono ?_; rintro e w3 ⟨rfl, hb3⟩; have HB3 := Hid.mk' hb3; clear hb3)
        go_ret2
        exact HFin.out w3 HB3.out
      · have HR3 := Hid.mk' (HRE.out _ (fun _ => rfl))
        clear HRE
        go_wp2_with (go_at_call 26; refine HR3.out.mono ?_; rintro e w3 ⟨rfl, hb3⟩; have HB3 := Hid.mk' hb3; clear hb3)
        go_ret2
        exact HFin.out w3 HB3.out
    | some p =>
      obtain ⟨q, s⟩ := p
      have hle := Jn.one_le ho
      rw [List.length_drop] at hle
      have hck : ¬ cap = k := by omega
      have HM := Hid.mk' (fun W' ao' ca' hE hb => HD.out.more (W' := W') (ao' := ao') (ca' := ca') ho hE hb)
      have HRE : Hid (Calls Try.prog 26 #[.slice (ao.map (·.add k)) (n - k) (cap - k)] wr fun e w' => ∃ ta tc, e = .returned (.tuple #[.agg #[.int .i64 q.kind, .int .i64 q.id, .int .i64 q.n, .slice ta q.text.length tc], .int .i64 (s : Int)]) ∧ IsBS w' (fun k => wr.heap.size ≤ k) ta tc q.text ∧ Below wr.heap.size wr w') := (readEntry_any (b.drop k) _ (cap - k) (n - k) wr (HCut.out _ (fun _ => rfl)) (by rw [List.length_drop, hn]) (by omega)).mono fun e w' h => by
        cases h with
        | no h1 h2 => rw [ho] at h1; cases h1
        | yes q' s' ta tc h1 h2 h3 =>
          rw [ho] at h1; injection h1 with h1; injection h1 with h4 h5; subst h4; subst h5
          exact ⟨ta, tc, rfl, h2, h3⟩
      clear ho HCut
      have ts : ((s : Int) == 0) = false := by rw [beq_eq_false_iff_ne]; omega
      have HQn : Hid (∃ qn, q.text.length = qn) := ⟨_, rfl⟩
      generalize hqn : q.text.length = qn at *
      go_upto_region 6 with (go_at_call 26; refine HRE.out.mono ?_; rintro e w3 ⟨ta, tc, rfl, hI3, hb3⟩; have HB3 := Hid.mk' hb3; have HI3 := Hid.mk' hI3; clear hb3 hI3)
      have hbA : Below w3.heap.size w3 (w3.alloc (.cells #[.int .i64 q.kind, .int .i64 q.id, .int .i64 q.n, .slice ta qn tc] 24)) := (Below.refl _ w3).alloc (Nat.le_refl _) _
      have hq4 := heap_alloc_new w3 (.cells #[.int .i64 q.kind, .int .i64 q.id, .int .i64 q.n, .slice ta qn tc] 24)
      have HI4 : Hid (IsBS (w3.alloc (.cells #[.int .i64 q.kind, .int .i64 q.id, .int .i64 q.n, .slice ta qn tc] 24)) (fun k => wr.heap.size ≤ k) ta tc q.text) := HI3.out.turns (Turns.of_below (S := fun _ => False) hbA) (fun _ _ e => e)
      have HB4 : Hid (Below wr.heap.size wr (w3.alloc (.cells #[.int .i64 q.kind, .int .i64 q.id, .int .i64 q.n, .slice ta qn tc] 24))) := then_ HB3.out hbA
      clear hbA
      generalize w3.alloc (.cells #[.int .i64 q.kind, .int .i64 q.id, .int .i64 q.n, .slice ta qn tc] 24) = w4 at *
      generalize w3.heap.size = gq at *
      obtain ⟨⟨k0, k1, k2, k3⟩, _⟩ := row4 hq4
      obtain ⟨xs, hO, hP⟩ := ((HD.out.ens.mono (S' := fun k => w.heap.size ≤ k ∧ k < wr.heap.size) (fun j hj e => ⟨e, hj⟩)).stay HB4.out).push (.cells #[.int .i64 q.kind, .int .i64 q.id, .int .i64 q.n, .slice ta qn tc] 24)
      have HNw : Hid (IsV (w4.alloc (.cells #[.int .i64 q.kind, .int .i64 q.id, .int .i64 q.n, .slice ta qn tc] 24)) (some ⟨w4.heap.size, 0, none⟩) 1 1 (enC q ⟨ta, tc⟩)) := by
        have := IsV.made w4 #[.int .i64 q.kind, .int .i64 q.id, .int .i64 q.n, .slice ta qn tc] 1 24 (0, 0)
        rw [← hqn] at this ⊢; exact this
      rw [hm] at hO hP
      have HO := Hid.mk' hO; have HP := Hid.mk' hP
      have HN : Hid (m + 1 ≤ 9223372036854775807 ∧ (m + 1) * 48 ≤ 140737488355328) := ⟨by omega, by omega⟩
      have hz := HD.out.below.size
      have hwk : IntKind.i64.wrap ((k : Int) + s) = (k : Int) + s := wrap_id (by omega) (by omega)
      clear hq4 hO hP
      go_wp2_with (at_builtin; refine wpList_append_v rfl (.tmp 19) (.tmp 21) 31 rfl 0 24 j0 (.agg #[.int .i64 0, .int .i64 0, .int .i64 0, .slice none 0 0]) 4 48 Try.underlying31 Hj.out Hy0.out Hy1.out Hy2.out rfl (by decide) rfl HO.out rfl HNw.out rfl (enC_one _ _) HN.out.1 HN.out.2 (Nat.zero_le _) ?_; intro ao5 cap5 w5 hO5 hG5 hat5; obtain ⟨hU5, hT5⟩ := HP.out ao5 cap5 w5 q ⟨ta, tc⟩ (fun j => wr.heap.size ≤ j) HI4.out (fun j e h => by omega) hO5 hG5 hat5; have HU5 := Hid.mk' hU5; have HT5 := Hid.mk' hT5; clear hO5 hG5 hat5 hU5 hT5)
      go_roundw
      case rel =>
        have hz4 := HB4.out.size
        refine ⟨k + s, ao5, cap5, l ++ [q], m + 1, by rw [List.length_append, hm]; rfl, rfl, by go_num, HM.out w5 ao5 cap5 (HU5.out.mono (fun j _ e => ?_)) ((then_ HD.out.below HB4.out).trans (HT5.out.below (fun j e => e.1) (by omega)))⟩
        rcases e with e | e | e
        · exact e.1
        · omega
        · omega
      case measure => simp [intOf]; omega
end Go.Proofs.Ytankilclhknbkaa
