/- Package journal, walked: a log's Write and Crash. -/
import Derived.Test.YtankilclhknbkaaJlA
import Derived.Deep.RegionLaw
namespace Go.Proofs.Ytankilclhknbkaa
open Go.RowKit

section
variable {w w' : World} {base g : Nat} {b : List UInt8} {sure : Nat} {ao : Option Addr} {ca : Nat}
/-- what a step may turn of a log -/
def LgF (g : Nat) (ao : Option Addr) : Nat → Prop := fun k => k = g ∨ blockOf ao = some k
theorem LogAt.wrote (h : LogAt w base g b sure ao ca) {x : List UInt8} {n : Nat} {ao' : Option Addr} {ca' : Nat} {w3 : World} (hO : OwnB w3 base 5 ao' ca' (b ++ x)) (hG : w.grownBy w3 (blockOf ao)) (hat : blockOf ao' = blockOf ao ∨ blockOf ao' = some w.heap.size) (hn : n = (b ++ x).length) (hf : n ≤ 100000) :
    w3.heap[g]? = some (.cells #[.slice ao b.length ca, .int .i64 (sure : Int)] 64 (0, 0)) ∧ LogAt (w3.setCell ⟨g, 0, none⟩ (.slice ao' n ca')) base g (b ++ x) sure ao' ca' ∧ Turns (LgF g ao) w (w3.setCell ⟨g, 0, none⟩ (.slice ao' n ca')) := by
  have hne : some g ≠ blockOf ao := fun e => by
    cases ao with
    | none => cases e
    | some a => injection e with e; exact h.apart a rfl e.symm
  have hr : w3.heap[g]? = some (.cells #[.slice ao b.length ca, .int .i64 (sure : Int)] 64 (0, 0)) := (hG.block g h.lt hne).trans h.row
  have ht : Turns (fun k => k = g) w3 (w3.setCell ⟨g, 0, none⟩ (.slice ao' n ca')) := Turns.setCell _ w3 _ _ rfl
  have hne' : ∀ a, ao' = some a → ¬ a.block = g := fun a e e2 => by
    rcases hat with hat | hat
    · rw [e] at hat; exact hne (by rw [← hat, ← e2]; rfl)
    · rw [e] at hat; injection hat with hat
      have := h.lt; omega
  subst hn
  refine ⟨hr, ⟨heap_setCell_same w3 g 0 _ _ _ hr, hO.turns ht hne', h.low, by rw [List.length_append]; have := h.le; omega, hf⟩, (Turns.of_grown (S := LgF g ao) hG (fun k e => Or.inr e)).trans ht (fun k e _ => Or.inl e)⟩
set_option maxHeartbeats 1000000 in
theorem writeLog_yes (h : LogAt w base g b sure ao ca) (xo : Option Addr) (xc n : Nat) (x : List UInt8) (hx : IsB w xo xc x) (hn : x.length = n) (hf : b.length + n ≤ 100000) : Calls Try.prog 16 #[.pointer (some ⟨g, 0, none⟩), .slice xo n xc] w fun e w' => ∃ ao' ca', e = .returned (.int .i64 0) ∧ LogAt w' base g (b ++ x) sure ao' ca' ∧ Turns (LgF g ao) w w' ∧ (blockOf ao' = blockOf ao ∨ blockOf ao' = some w.heap.size) := by
  obtain ⟨⟨c0, c1⟩, f0, f1⟩ := row2 h.row
  have HX := Hid.mk' hx
  have HR : Hid (Calls Try.prog 22 #[.pointer (some ⟨g, 0, none⟩), .int .i64 (n : Int)] w fun e w' => e = .returned (.bool true) ∧ w' = w) := by
    have := roomLog_any h (n : Int)
    rw [decide_eq_true (by omega), decide_eq_true (by omega)] at this
    exact this
  obtain ⟨i0, hi0, hz0, hz1, hz2⟩ := info_parts info_u8
  have Hi := Hid.mk' hi0; have Hz0 := Hid.mk' hz0; have Hz1 := Hid.mk' hz1; have Hz2 := Hid.mk' hz2
  have HW : Hid (∀ ao' ca' w3, OwnB w3 base 5 ao' ca' (b ++ x) → w.grownBy w3 (blockOf ao) → (blockOf ao' = blockOf ao ∨ blockOf ao' = some w.heap.size) → w3.heap[g]? = some (.cells #[.slice ao b.length ca, .int .i64 (sure : Int)] 64 (0, 0)) ∧ LogAt (w3.setCell ⟨g, 0, none⟩ (.slice ao' (b.length + n) ca')) base g (b ++ x) sure ao' ca' ∧ Turns (LgF g ao) w (w3.setCell ⟨g, 0, none⟩ (.slice ao' (b.length + n) ca'))) := fun ao' ca' w3 hO hG hat => h.wrote hO hG hat (by rw [List.length_append, hn]) hf
  have HO := Hid.mk' h.own
  have hbs : base ≤ w.heap.size := by have := h.low; have := h.lt; omega
  have HN := Hid.mk' hn
  obtain ⟨m, hm⟩ : ∃ m, b.length = m := ⟨_, rfl⟩
  have HM := Hid.mk' hm
  rw [hm] at c0 hf HW
  clear h hx hn hm hi0 hz0 hz1 hz2
  go_enter Try.func16, Try.ntmps16
  go_wp2_with (first
    | (go_at_call 22; refine HR.out.mono ?_; rintro e w2 ⟨rfl, hw⟩; rw [hw]; clear hw)
    | (at_builtin; refine wpList_append_at rfl (.tmp 14) (.tmp 15) 22 rfl base 5 i0 Try.underlying22 Hi.out Hz0.out Hz1.out Hz2.out (l := b) (l2 := x) rfl HM.out HO.out rfl HN.out HX.out (by omega) hbs ?_; intro a3 c3 w3 hO3 hG3 hat3; obtain ⟨r3, l3, t3⟩ := HW.out a3 c3 w3 hO3 hG3 hat3; obtain ⟨⟨d0, d1⟩, e0, e1⟩ := row2 r3; have HL3 := Hid.mk' (And.intro l3 (And.intro t3 hat3)); clear hO3 hG3 hat3 r3 l3 t3))
  go_ret
  exact ⟨a3, c3, rfl, HL3.out⟩
theorem writeLog_no (h : LogAt w base g b sure ao ca) (xo : Option Addr) (xc n : Nat) (hf : ¬ b.length + n ≤ 100000) : Calls Try.prog 16 #[.pointer (some ⟨g, 0, none⟩), .slice xo n xc] w fun e w' => e = .returned (.int .i64 16) ∧ w' = w := by
  have HR : Hid (Calls Try.prog 22 #[.pointer (some ⟨g, 0, none⟩), .int .i64 (n : Int)] w fun e w' => e = .returned (.bool false) ∧ w' = w) := by
    have := roomLog_any h (n : Int)
    rw [decide_eq_true (show (0 : Int) ≤ n by omega), decide_eq_false (by omega)] at this
    exact this
  clear h hf
  go_enter Try.func16, Try.ntmps16
  go_wp2_with (go_at_call 22; refine HR.out.mono ?_; rintro e w2 ⟨rfl, hw⟩; rw [hw]; clear hw)
  go_ret
  exact ⟨rfl, rfl⟩
/-- how many bytes that are not made sure of a crash leaves -/
def stay_ (keep : Int) (d : Nat) : Nat := min (max keep 0).toNat d
set_option maxHeartbeats 2000000 in
theorem crashLog_any (h : LogAt w base g b sure ao ca) (keep : Int) : Calls Try.prog 18 #[.pointer (some ⟨g, 0, none⟩), .int .i64 keep] w fun e w' => e = .returned (.tuple #[]) ∧ LogAt w' base g (b.take (sure + stay_ keep (b.length - sure))) (sure + stay_ keep (b.length - sure)) ao ca ∧ Turns (fun k => k = g) w w' := by
  obtain ⟨⟨c0, c1⟩, f0, f1⟩ := row2 h.row
  have hle := h.le
  have hfew := h.few
  have hd : stay_ keep (b.length - sure) ≤ b.length - sure := by unfold stay_; omega
  have HDr : Hid (∀ W, Below w.heap.size w W → LogAt W base g b sure ao ca) := fun W hW => h.stay hW
  have HSt : Hid ((stay_ keep (b.length - sure) : Int) = if keep < 0 then 0 else if (b.length : Int) - sure < keep then (b.length : Int) - sure else keep) := by
    unfold Hid stay_
    split
    · omega
    · split <;> omega
  have hw1 : IntKind.i64.wrap ((b.length : Int) - sure) = (b.length : Int) - sure := wrap_id (by omega) (by omega)
  have HCut : Hid (∀ W, Below w.heap.size w W → Calls Try.prog 19 #[.pointer (some ⟨g, 0, none⟩), .int .i64 ((sure : Int) + (stay_ keep (b.length - sure) : Int))] W fun e w' => e = .returned (.tuple #[]) ∧ LogAt w' base g (b.take (sure + stay_ keep (b.length - sure))) sure ao ca ∧ Turns (fun k => k = g) W w') := fun W hW => by
    have hL := HDr.out W hW
    by_cases hc : sure + stay_ keep (b.length - sure) < b.length
    · have := cutLog_yes hL (sure + stay_ keep (b.length - sure)) hc
      rw [show min sure (sure + stay_ keep (b.length - sure)) = sure by omega] at this
      simpa using this
    · have e : sure + stay_ keep (b.length - sure) = b.length := by omega
      rw [e, List.take_length]
      refine (cutLog_no hL _ (by omega)).mono fun e w' ⟨h1, h2⟩ => ⟨h1, by rw [h2]; exact hL, by rw [h2]; exact Turns.refl _ _⟩
  have HTk : Hid ((b.take (sure + stay_ keep (b.length - sure))).length = sure + stay_ keep (b.length - sure)) := by unfold Hid; rw [List.length_take]; omega
  clear h
  generalize b.take (sure + stay_ keep (b.length - sure)) = bt at *
  generalize stay_ keep (b.length - sure) = st at *
  have hst : sure + st ≤ 100000 := by omega
  generalize b.length = m at *
  go_enter Try.func18, Try.ntmps18
  go_upto_region 0 with fail
  go_cut [4] (fun v wd => v = .int .i64 (st : Int) ∧ Below w.heap.size w wd)
  case first =>
    have HBd : Hid (Below w.heap.size w w.drew) := below_drew _ _
    by_cases hk : keep < 0
    · have e : (st : Int) = 0 := by have := HSt.out; rwa [if_pos hk] at this
      have hk0 : ¬ (m : Int) - sure < 0 := by omega
      go_region
      all_goals
        go_wp2
        go_meet
        exact ⟨by rw [e], HBd.out⟩
    · by_cases hk2 : (m : Int) - sure < keep
      · have e : (st : Int) = (m : Int) - sure := by have := HSt.out; rwa [if_neg hk, if_pos hk2] at this
        go_region
        all_goals
          go_wp2
          go_meet
          exact ⟨by rw [e], HBd.out⟩
      · have e : (st : Int) = keep := by have := HSt.out; rwa [if_neg hk, if_neg hk2] at this
        go_region
        all_goals
          go_wp2
          go_meet
          exact ⟨by rw [e], HBd.out⟩
  case rest =>
    obtain ⟨rfl, hB⟩ := hcut
    have hL := HDr.out wc hB
    obtain ⟨⟨d0, d1⟩, _⟩ := row2 hL.row
    have HC := Hid.mk' (HCut.out wc hB)
    have HB := Hid.mk' hB
    have hwz : IntKind.i64.wrap ((sure : Int) + st) = (sure : Int) + st := wrap_id (by omega) (by omega)
    clear hL hB c0 c1 f0 f1 HSt
    have HSy : Hid (∀ W, LogAt W base g bt sure ao ca → Calls Try.prog 17 #[.pointer (some ⟨g, 0, none⟩)] W fun e w' => e = .returned (.tuple #[]) ∧ LogAt w' base g bt (sure + st) ao ca ∧ Turns (fun k => k = g) W w') := fun W hW => by
      have := syncLog_any hW
      rw [HTk.out] at this; exact this
    go_wp2_with (first
      | (go_at_call 19; refine HC.out.mono ?_; rintro e w3 ⟨rfl, hL3, ht3⟩; have HL3 := Hid.mk' hL3; have HT3 := Hid.mk' ht3; clear hL3 ht3)
      | (go_at_call 17; refine (HSy.out _ HL3.out).mono ?_; rintro e w4 ⟨rfl, hL4, ht4⟩; have HL4 := Hid.mk' hL4; have HT4 := Hid.mk' ht4; clear hL4 ht4))
    go_end0
    exact ⟨rfl, HL4.out, ((Turns.of_below HB.out).trans HT3.out (fun _ e _ => e)).trans HT4.out (fun _ e _ => e)⟩
end
end Go.Proofs.Ytankilclhknbkaa
