/- Package journal, walked: an entry that is read, with how many bytes follow. -/
import Derived.Test.YtankilclhknbkaaJrF
namespace Go.Proofs.Ytankilclhknbkaa
open Go.RowKit

/-- what is answered -/
inductive OneOut (w : World) (b : List UInt8) : Ending → World → Prop
  | no {w'} : Jn.one b = none → Below w.heap.size w w' → OneOut w b (.returned (.tuple #[.agg #[.int .i64 0, .int .i64 0, .int .i64 0, .slice none 0 0], .int .i64 0])) w'
  | yes {w'} (e : Jn.E) (s : Nat) (ta : Option Addr) (tc : Nat) : Jn.one b = some (e, s) → IsBS w' (fun k => w.heap.size ≤ k) ta tc e.text → Below w.heap.size w w' → OneOut w b (.returned (.tuple #[.agg #[.int .i64 e.kind, .int .i64 e.id, .int .i64 e.n, .slice ta e.text.length tc], .int .i64 (s : Int)])) w'
theorem one_of_none {b : List UInt8} (h : Jn.rn b = none) : Jn.one b = none := by unfold Jn.one; rw [h]
theorem one_of_far {b : List UInt8} {x : Int} {s : Nat} (h : Jn.rn b = some (x, s)) (hx : ¬ (0 ≤ x ∧ x ≤ (b.length : Int) - s)) : Jn.one b = none := by unfold Jn.one; rw [h]; simp only; rw [if_neg hx]
theorem one_of_some {b : List UInt8} {x : Int} {s : Nat} (h : Jn.rn b = some (x, s)) (hx : 0 ≤ x ∧ x ≤ (b.length : Int) - s) : Jn.one b = (Jn.inner ((b.drop s).take x.toNat)).map fun e => (e, s + x.toNat) := by unfold Jn.one; rw [h]; simp only; rw [if_pos hx]
theorem size_store4 (W : World) (g : Nat) (a b c d : Value) : ((((W.setCell ⟨g, 0, none⟩ a).setCell ⟨g, 1, none⟩ b).setCell ⟨g, 2, none⟩ c).setCell ⟨g, 3, none⟩ d).heap.size = W.heap.size := by simp [World.setCell]

set_option maxRecDepth 100000 in
set_option maxHeartbeats 2000000 in
theorem readEntry_any (b : List UInt8) (ao : Option Addr) (cap n : Nat) (w : World) (hB : IsB w ao cap b) (hn : b.length = n) (hN : n ≤ 1000000000) :
    Calls Try.prog 26 #[.slice ao n cap] w fun e w' => OneOut w b e w' := by
  have hb1 : Below w.heap.size w (w.alloc (.cells #[.int .i64 0, .int .i64 0, .int .i64 0, .slice none 0 0] 24)) := (Below.refl _ w).alloc (Nat.le_refl _) _
  have hs1 : (w.alloc (.cells #[.int .i64 0, .int .i64 0, .int .i64 0, .slice none 0 0] 24)).heap.size = w.heap.size + 1 := by simp
  have HR := Hid.mk' (readNumber_any b ao cap n _ (hB.stay hb1) hn hN)
  have hcap := hB.1
  have HRw : Hid (∀ W, Below (w.heap.size + 1) (w.alloc (.cells #[.int .i64 0, .int .i64 0, .int .i64 0, .slice none 0 0] 24)) W → W.heap[w.heap.size]? = some (.cells #[.int .i64 0, .int .i64 0, .int .i64 0, .slice none 0 0] 24 (0, 0)) ∧ Below w.heap.size w W ∧ IsB W ao cap b) := fun W hW =>
    ⟨(hW.block _ (by omega)).trans (heap_alloc_new w _), hb1.trans (hW.mono (by omega)), hB.stay (hb1.trans (hW.mono (by omega)))⟩
  have HZ := Hid.mk' hs1
  clear hB hb1 hs1
  have h1 := HRw.out _ (Below.refl _ _)
  obtain ⟨⟨c0, c1, c2, c3⟩, f0, f1, f2, f3⟩ := row4 h1.1
  have HR1 := Hid.mk' h1.1
  have HB1 := Hid.mk' h1.2.1
  have HI1 := Hid.mk' h1.2.2
  clear h1
  go_enter Try.func26, Try.ntmps26
  go_upto_region 1 with fail
  generalize w.alloc (.cells #[.int .i64 0, .int .i64 0, .int .i64 0, .slice none 0 0] 24) = w1 at *
  cases hr : Jn.rn b with
  | none =>
    rw [rnOut_none hr] at HR
    have HX := Hid.mk' (one_of_none hr)
    clear hr
    go_wp2_with (go_at_call 29; refine HR.out.mono ?_; rintro e w3 ⟨rfl, hw⟩; rw [hw]; clear hw)
    obtain ⟨hr4, ht4⟩ := store4 HR1.out (.int .i64 0) (.int .i64 0) (.int .i64 0) (.slice none 0 0)
    generalize ((((w1.setCell ⟨w.heap.size, 0, none⟩ (Value.int .i64 0)).setCell ⟨w.heap.size, 1, none⟩ (Value.int .i64 0)).setCell ⟨w.heap.size, 2, none⟩ (Value.int .i64 0)).setCell ⟨w.heap.size, 3, none⟩ (Value.slice none 0 0)) = w4 at hr4 ht4 ⊢
    obtain ⟨⟨r0, r1, r2, r3⟩, _⟩ := row4 hr4
    refine bodyPost_ret (v := .tuple #[.agg #[.int .i64 0, .int .i64 0, .int .i64 0, .slice none 0 0], .int .i64 0]) (by simp [results, Try.results26, go_sem, r0, r1, r2, r3]) rfl (.no HX.out (HB1.out.trans (ht4.below (fun k e => by omega) HB1.out.size)))
  | some p =>
    obtain ⟨x, s⟩ := p
    rw [rnOut_some hr] at HR
    have hrl := Jn.rn_le hr
    have ts : ((s : Int) == 0) = false := by rw [beq_eq_false_iff_ne]; omega
    have hws : IntKind.i64.wrap ((n : Int) - s) = (n : Int) - s := wrap_id (by omega) (by omega)
    by_cases hx : 0 ≤ x ∧ x ≤ (n : Int) - s
    · have HX := Hid.mk' (one_of_some hr (by rw [hn]; exact hx))
      obtain ⟨hx0, hx1⟩ := hx
      obtain ⟨m, rfl⟩ : ∃ m : Nat, x = m := ⟨x.toNat, by omega⟩
      rw [Int.toNat_natCast] at HX
      clear hr
      obtain ⟨bb, oo, rfl, hcs⟩ := HI1.out.lit (by omega)
      clear hcs
      have t1 : ¬ (m : Int) < 0 := by omega
      have t2 : ¬ (n : Int) - s < m := by omega
      have i1 : (s : Int) ≤ (s : Int) + m := by omega
      have i2 : (s : Int) + m ≤ cap := by omega
      have hwm : IntKind.i64.wrap ((s : Int) + m) = (s : Int) + m := wrap_id (by omega) (by omega)
      have hsb : (s : Int) ≤ cap := by omega
      have i3 : ((s : Int) + m).toNat = s + m := by omega
      have HIn : Hid (∀ W, Below (w.heap.size + 1) w1 W → Calls Try.prog 30 #[.slice (if cap = s then some ⟨bb, oo, none⟩ else some ⟨bb, oo + s, none⟩) m (cap - s)] W fun e w' => InnOut W ((b.drop s).take m) e w') := fun W hW => by
        have h1 := (HRw.out W hW).2.2.cut (ao' := if cap = s then some ⟨bb, oo, none⟩ else some ⟨bb, oo + s, none⟩) s (s + m) (by omega) (by omega) (fun e => by rw [if_neg e]; simp [Addr.add_lit])
        rw [show s + m - s = m by omega] at h1
        exact readInner_any _ _ _ m W h1 (by rw [List.length_take, List.length_drop]; omega) (by omega)
      cases hin : Jn.inner ((b.drop s).take m) with
      | none =>
        have HN : Hid (Jn.one b = none) := by unfold Hid; rw [HX.out, hin]; rfl
        have HI2 : Hid (Calls Try.prog 30 #[.slice (if cap = s then some ⟨bb, oo, none⟩ else some ⟨bb, oo + s, none⟩) m (cap - s)] w1 fun e w' => e = .returned (.tuple #[.agg #[.int .i64 0, .int .i64 0, .int .i64 0, .slice none 0 0], .bool false]) ∧ Below w1.heap.size w1 w') := (HIn.out w1 (Below.refl _ _)).mono fun e w' h => by
          cases h with
          | no h1 h2 => exact ⟨rfl, h2⟩
          | yes q ta tc h1 _ _ => rw [hin] at h1; cases h1
        clear hin HIn HX
        go_upto_region 6 with (first
          | (go_at_call 29; refine HR.out.mono ?_; rintro e w3 ⟨rfl, hw⟩; rw [hw]; clear hw)
          | (go_at_call 30; refine HI2.out.mono ?_; rintro e w3 ⟨rfl, hb3⟩; have HB3 := Hid.mk' hb3; clear hb3))
        generalize (if cap = s then some (⟨bb, oo, none⟩ : Addr) else some ⟨bb, oo + s, none⟩) = aj at *
        have hb4 : Below (w.heap.size + 1) w1 (w3.alloc (.cells #[.int .i64 0, .int .i64 0, .int .i64 0, .slice none 0 0] 24)) := by
          rw [← HZ.out]; exact HB3.out.alloc HB3.out.size _
        generalize w3.alloc (.cells #[.int .i64 0, .int .i64 0, .int .i64 0, .slice none 0 0] 24) = w4 at *
        obtain ⟨hr4, hbw, _⟩ := HRw.out w4 hb4
        have HR4 := Hid.mk' hr4; have HBw := Hid.mk' hbw
        obtain ⟨⟨a0, a1, a2, a3⟩, g0, g1, g2, g3⟩ := row4 hr4
        clear hr4 hbw hb4
        go_wp2
        obtain ⟨hr5, ht5⟩ := store4 HR4.out (.int .i64 0) (.int .i64 0) (.int .i64 0) (.slice none 0 0)
        generalize ((((w4.setCell ⟨w.heap.size, 0, none⟩ (Value.int .i64 0)).setCell ⟨w.heap.size, 1, none⟩ (Value.int .i64 0)).setCell ⟨w.heap.size, 2, none⟩ (Value.int .i64 0)).setCell ⟨w.heap.size, 3, none⟩ (Value.slice none 0 0)) = w5 at hr5 ht5 ⊢
        obtain ⟨⟨r0, r1, r2, r3⟩, _⟩ := row4 hr5
        refine bodyPost_ret (v := .tuple #[.agg #[.int .i64 0, .int .i64 0, .int .i64 0, .slice none 0 0], .int .i64 0]) (by simp [results, Try.results26, go_sem, r0, r1, r2, r3]) rfl (.no HN.out (HBw.out.trans (ht5.below (fun k e => by omega) HBw.out.size)))
      | some q =>
        have HN : Hid (Jn.one b = some (q, s + m)) := by unfold Hid; rw [HX.out, hin]; rfl
        have HI2 : Hid (Calls Try.prog 30 #[.slice (if cap = s then some ⟨bb, oo, none⟩ else some ⟨bb, oo + s, none⟩) m (cap - s)] w1 fun e w' => ∃ ta tc, e = .returned (.tuple #[.agg #[.int .i64 q.kind, .int .i64 q.id, .int .i64 q.n, .slice ta q.text.length tc], .bool true]) ∧ IsBS w' (fun k => w1.heap.size ≤ k) ta tc q.text ∧ Below w1.heap.size w1 w') := (HIn.out w1 (Below.refl _ _)).mono fun e w' h => by
          cases h with
          | no h1 h2 => rw [hin] at h1; cases h1
          | yes q' ta tc h1 h2 h3 =>
            rw [hin] at h1; injection h1 with h1; subst h1
            exact ⟨ta, tc, rfl, h2, h3⟩
        clear hin HIn HX
        generalize hqn : q.text.length = qn at *
        go_upto_region 6 with (first
          | (go_at_call 29; refine HR.out.mono ?_; rintro e w3 ⟨rfl, hw⟩; rw [hw]; clear hw)
          | (go_at_call 30; refine HI2.out.mono ?_; rintro e w3 ⟨ta, tc, rfl, hI3, hb3⟩; have HB3 := Hid.mk' hb3; have HI3 := Hid.mk' hI3; clear hb3 hI3))
        generalize (if cap = s then some (⟨bb, oo, none⟩ : Addr) else some ⟨bb, oo + s, none⟩) = aj at *
        have hbA : Below w3.heap.size w3 (w3.alloc (.cells #[.int .i64 q.kind, .int .i64 q.id, .int .i64 q.n, .slice ta qn tc] 24)) := (Below.refl _ w3).alloc (Nat.le_refl _) _
        have hb4 : Below (w.heap.size + 1) w1 (w3.alloc (.cells #[.int .i64 q.kind, .int .i64 q.id, .int .i64 q.n, .slice ta qn tc] 24)) := by
          rw [← HZ.out]; exact HB3.out.alloc HB3.out.size _
        have hq4 := heap_alloc_new w3 (.cells #[.int .i64 q.kind, .int .i64 q.id, .int .i64 q.n, .slice ta qn tc] 24)
        have HI4 : Hid (IsBS (w3.alloc (.cells #[.int .i64 q.kind, .int .i64 q.id, .int .i64 q.n, .slice ta qn tc] 24)) (fun k => w1.heap.size ≤ k) ta tc q.text) := HI3.out.turns (Turns.of_below (S := fun _ => False) hbA) (fun _ _ e => e)
        have hz3 : w.heap.size + 1 ≤ w3.heap.size := by have := HB3.out.size; have := HZ.out; omega
        generalize w3.alloc (.cells #[.int .i64 q.kind, .int .i64 q.id, .int .i64 q.n, .slice ta qn tc] 24) = w4 at *
        generalize w3.heap.size = gq at *
        obtain ⟨hr4, hbw, _⟩ := HRw.out w4 hb4
        have HR4 := Hid.mk' hr4; have HBw := Hid.mk' hbw
        obtain ⟨⟨a0, a1, a2, a3⟩, g0, g1, g2, g3⟩ := row4 hr4
        obtain ⟨⟨k0, k1, k2, k3⟩, _⟩ := row4 hq4
        have hne : ¬ gq = w.heap.size := by omega
        have hne2 : ¬ w.heap.size = gq := by omega
        clear hr4 hbw hb4 hq4 hbA
        go_wp2
        obtain ⟨hr5, ht5⟩ := store4 HR4.out (.int .i64 q.kind) (.int .i64 q.id) (.int .i64 q.n) (.slice ta qn tc)
        generalize ((((w4.setCell ⟨w.heap.size, 0, none⟩ (Value.int .i64 q.kind)).setCell ⟨w.heap.size, 1, none⟩ (Value.int .i64 q.id)).setCell ⟨w.heap.size, 2, none⟩ (Value.int .i64 q.n)).setCell ⟨w.heap.size, 3, none⟩ (Value.slice ta qn tc)) = w5 at hr5 ht5 ⊢
        obtain ⟨⟨r0, r1, r2, r3⟩, _⟩ := row4 hr5
        have hy := OneOut.yes (w := w) (b := b) (w' := w5) q (s + m) ta tc HN.out ((HI4.out.turns ht5 (fun k e e2 => by have := HZ.out; omega)).mono (fun k _ e => by have := HZ.out; omega)) (HBw.out.trans (ht5.below (fun k e => by omega) HBw.out.size))
        rw [hqn] at hy
        refine bodyPost_ret (v := .tuple #[.agg #[.int .i64 q.kind, .int .i64 q.id, .int .i64 q.n, .slice ta qn tc], .int .i64 ((s + m : Nat) : Int)]) (by simp [results, Try.results26, go_sem, r0, r1, r2, r3]) rfl hy
    · have HX := Hid.mk' (one_of_far hr (by rw [hn]; exact hx))
      clear hr
      by_cases hx0 : x < 0
      · clear hx
        go_wp2_with (go_at_call 29; refine HR.out.mono ?_; rintro e w3 ⟨rfl, hw⟩; rw [hw]; clear hw)
        obtain ⟨hr4, ht4⟩ := store4 HR1.out (.int .i64 0) (.int .i64 0) (.int .i64 0) (.slice none 0 0)
        generalize ((((w1.setCell ⟨w.heap.size, 0, none⟩ (Value.int .i64 0)).setCell ⟨w.heap.size, 1, none⟩ (Value.int .i64 0)).setCell ⟨w.heap.size, 2, none⟩ (Value.int .i64 0)).setCell ⟨w.heap.size, 3, none⟩ (Value.slice none 0 0)) = w4 at hr4 ht4 ⊢
        obtain ⟨⟨r0, r1, r2, r3⟩, _⟩ := row4 hr4
        refine bodyPost_ret (v := .tuple #[.agg #[.int .i64 0, .int .i64 0, .int .i64 0, .slice none 0 0], .int .i64 0]) (by simp [results, Try.results26, go_sem, r0, r1, r2, r3]) rfl (.no HX.out (HB1.out.trans (ht4.below (fun k e => by omega) HB1.out.size)))
      · have t2 : (n : Int) - s < x := by omega
        clear hx
        go_wp2_with (go_at_call 29; refine HR.out.mono ?_; rintro e w3 ⟨rfl, hw⟩; rw [hw]; clear hw)
        obtain ⟨hr4, ht4⟩ := store4 HR1.out (.int .i64 0) (.int .i64 0) (.int .i64 0) (.slice none 0 0)
        generalize ((((w1.setCell ⟨w.heap.size, 0, none⟩ (Value.int .i64 0)).setCell ⟨w.heap.size, 1, none⟩ (Value.int .i64 0)).setCell ⟨w.heap.size, 2, none⟩ (Value.int .i64 0)).setCell ⟨w.heap.size, 3, none⟩ (Value.slice none 0 0)) = w4 at hr4 ht4 ⊢
        obtain ⟨⟨r0, r1, r2, r3⟩, _⟩ := row4 hr4
        refine bodyPost_ret (v := .tuple #[.agg #[.int .i64 0, .int .i64 0, .int .i64 0, .slice none 0 0], .int .i64 0]) (by simp [results, Try.results26, go_sem, r0, r1, r2, r3]) rfl (.no HX.out (HB1.out.trans (ht4.below (fun k e => by omega) HB1.out.size)))
end Go.Proofs.Ytankilclhknbkaa
