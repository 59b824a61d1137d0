/- Small texts, one behind the other: MemL, RfHexT. -/
import Derived.Test.YtnacbfeijakipabDoorPk1
import Derived.Test.YtnacbfeijakipabDoorPk4
import Derived.Test.YtnacbfeijakipabDoorPk2
import Derived.Test.YtnacbfeijakipabDoorProg
/- Lists of lists of bytes in memory, of whatever program: a slice of slices that is read. -/
namespace Go.Proofs.YtnacbfeijakipabDoor
open Go.RowKit

/-- a slice of slices of bytes that reads as ls: whoever's memory it is -/
def IsL (w : World) (ao : Option Addr) (cap : Nat) (ls : List (List UInt8)) : Prop :=
  ls.length ≤ cap ∧ (ao = none → cap = 0) ∧ ∀ j (hj : j < ls.length), ∃ a bo c, ao = some a ∧ w.cell? (a.add j) = some (.slice bo ls[j].length c) ∧ IsB w bo c ls[j]
theorem IsL.nil (w : World) : IsL w none 0 [] := ⟨Nat.le_refl _, fun _ => rfl, fun j hj => by simp at hj⟩
theorem IsL.stay {w w' : World} {ao : Option Addr} {cap : Nat} {ls : List (List UInt8)} (h : IsL w ao cap ls) (hb : Below w.heap.size w w') : IsL w' ao cap ls := by
  refine ⟨h.1, h.2.1, fun j hj => ?_⟩
  obtain ⟨a, bo, c, e, hc, hI⟩ := h.2.2 j hj
  exact ⟨a, bo, c, e, by rw [hb.cell (World.block_lt_of_cell? w _ hc)]; exact hc, hI.stay hb⟩
/-- its address, written out -/
theorem IsL.lit {w : World} {ao : Option Addr} {cap : Nat} {ls : List (List UInt8)} (h : IsL w ao cap ls) (hl : 0 < ls.length) : ∃ b o, ao = Option.some ⟨b, o, Option.none⟩ ∧ ∀ j (hj : j < ls.length), ∃ bo c, w.cell? ⟨b, o + j, Option.none⟩ = Option.some (.slice bo ls[j].length c) ∧ IsB w bo c ls[j] := by
  obtain ⟨⟨b, o, sp⟩, _, _, rfl, h0, _⟩ := h.2.2 0 hl
  have hs : sp = Option.none := by simpa [Addr.add] using World.cell?_spot h0
  subst hs
  refine ⟨b, o, rfl, fun j hj => ?_⟩
  obtain ⟨a, bo, c, e, hc, hI⟩ := h.2.2 j hj
  injection e with e
  subst e
  rw [Addr.add_lit] at hc
  exact ⟨bo, c, hc, hI⟩
/-- element j, in every world that keeps what was there -/
theorem IsL.at_ {w : World} {b o cap : Nat} {ls : List (List UInt8)} (h : IsL w (Option.some ⟨b, o, Option.none⟩) cap ls) (j : Nat) (hj : j < ls.length) : ∃ bo c, ls[j].length ≤ c ∧ ∀ W, Below w.heap.size w W → W.cell? ⟨b, o + j, Option.none⟩ = Option.some (.slice bo ls[j].length c) ∧ IsB W bo c ls[j] := by
  obtain ⟨a, bo, c, e, hc, hI⟩ := h.2.2 j hj
  injection e with e
  subst e
  rw [Addr.add_lit] at hc
  exact ⟨bo, c, hI.1, fun W hb => ⟨by rw [hb.cell (World.block_lt_of_cell? w _ hc)]; exact hc, hI.stay hb⟩⟩
end Go.Proofs.YtnacbfeijakipabDoor

/- The document's own answer, walked: HexText. -/
namespace Go.Proofs.YtnacbfeijakipabDoor
open Go.RowKit

set_option maxHeartbeats 400000 in
theorem hexText_f (f : Nat) : ∀ (n : Nat) (w : World), n < 16 ^ (f + 1) → n < 4611686018427387904 → f < 30 →
    Calls Tryd.prog 36 #[.int .i64 n] w fun e w' => e = .returned (.string ⟨(Ch.hexF f n).toArray⟩) ∧ w' = w := by
  induction f with
  | zero =>
    intro n w hn _ _
    have hn' : n < 16 := by simpa using hn
    have HD : Hid (((⟨#[48, 49, 50, 51, 52, 53, 54, 55, 56, 57, 97, 98, 99, 100, 101, 102]⟩ : ByteArray).extract n (n + 1)) = ⟨(Ch.hexF 0 n).toArray⟩) := Ch.str_eq (Ch.hexs_at n hn')
    clear hn
    go_enter Tryd.func36, Tryd.ntmps36
    go_wp2
    go_ret
    exact ⟨ret_str HD.out, rfl⟩
  | succ f ih =>
    intro n w hn hb hf
    by_cases hlt : n < 16
    · have HD : Hid (((⟨#[48, 49, 50, 51, 52, 53, 54, 55, 56, 57, 97, 98, 99, 100, 101, 102]⟩ : ByteArray).extract n (n + 1)) = ⟨(Ch.hexF (f + 1) n).toArray⟩) := Ch.str_eq (by rw [Ch.hexs_at n hlt, Ch.hexF, if_pos hlt])
      clear hn ih
      go_enter Tryd.func36, Tryd.ntmps36
      go_wp2
      go_ret
      exact ⟨ret_str HD.out, rfl⟩
    · have hq : n / 16 < 16 ^ (f + 1) := by
        rw [Nat.pow_succ] at hn
        omega
      have hr : n % 16 < 16 ^ (f + 1) := by
        have : (16 : Nat) ^ 1 ≤ 16 ^ (f + 1) := Nat.pow_le_pow_right (by decide) (by omega)
        omega
      have IH : Hid (∀ w, Calls Tryd.prog 36 #[.int .i64 ((n : Int) / 16)] w fun e w' => e = .returned (.string ⟨(Ch.hexF f (n / 16)).toArray⟩) ∧ w' = w) := fun w => (show ((n / 16 : Nat) : Int) = (n : Int) / 16 by omega) ▸ ih (n / 16) w hq (by omega) (by omega)
      have IR : Hid (∀ w, Calls Tryd.prog 36 #[.int .i64 ((n : Int) % 16)] w fun e w' => e = .returned (.string ⟨(Ch.hexF f (n % 16)).toArray⟩) ∧ w' = w) := fun w => (show ((n % 16 : Nat) : Int) = (n : Int) % 16 by omega) ▸ ih (n % 16) w hr (by omega) (by omega)
      have hl := Ch.hexF_length f (n / 16)
      have hl2 := Ch.hexF_length f (n % 16)
      clear ih hn hq hr
      have HD : Hid ((⟨(Ch.hexF f (n / 16)).toArray⟩ : ByteArray) ++ (⟨(Ch.hexF f (n % 16)).toArray⟩ : ByteArray) = ⟨(Ch.hexF (f + 1) n).toArray⟩) :=
        Ch.str_eq (by rw [Ch.data_append, Ch.hexF_succ f n hlt])
      generalize (Ch.hexF f (n / 16)) = d at IH hl HD
      generalize (Ch.hexF f (n % 16)) = d2 at IR hl2 HD
      have hs1 : (⟨d.toArray⟩ : ByteArray).size ≤ 31 := by show d.toArray.size ≤ 31; simp; omega
      have hs2 : (⟨d2.toArray⟩ : ByteArray).size ≤ 31 := by show d2.toArray.size ≤ 31; simp; omega
      go_enter Tryd.func36, Tryd.ntmps36
      go_wp2_with fail
      refine (IH.out _).mono ?_
      rintro e w1 ⟨rfl, rfl⟩
      go_wp2_with fail
      refine (IR.out _).mono ?_
      rintro e w1 ⟨rfl, rfl⟩
      go_wp2
      go_ret
      exact ⟨ret_str HD.out, rfl⟩
end Go.Proofs.YtnacbfeijakipabDoor
