/- A reader of lines that is a call's own, from a block's number on; the one input that the statements try first, walked. -/
import Derived.Test.YtemgjebgncmglaaLinB
namespace Go.Proofs.Ytemgjebgncmglaa
open Go.RowKit

/-- one byte more, of a reader that lies from lo on -/
theorem feedL_lo (w : World) (lo g : Nat) (s : Ln.St) (c : UInt8) (h : LineAt w (fun k => lo ≤ k) g s) (hs : s.line.length ≤ 200) (hlo : lo ≤ w.heap.size) :
    Calls Try.prog 17 #[.pointer (some ⟨g, 0, none⟩), .int .u8 c.toNat] w fun e w' => e = .returned (Ln.fed s c) ∧ LineAt w' (fun k => lo ≤ k) g (Ln.next s c) ∧ Below lo w w' := by
  refine (feedLines_any w _ g s c h hs).mono ?_
  rintro e w' ⟨rfl, hL, hT⟩
  refine ⟨rfl, hL.mono (fun k _ e => ?_), hT.below (fun k e => e) hlo⟩
  rcases e with e | e
  · exact e
  · exact Nat.le_trans hlo e
/-- all that it comes to said -/
theorem feedL_c (w : World) (lo g : Nat) (s : Ln.St) (c : UInt8) (ci : Int) (v : Value) (s' : Ln.St) (hci : (c.toNat : Int) = ci) (hv : Ln.fed s c = v) (hn : Ln.next s c = s') (h : LineAt w (fun k => lo ≤ k) g s) (hs : s.line.length ≤ 200) (hlo : lo ≤ w.heap.size) :
    Calls Try.prog 17 #[.pointer (some ⟨g, 0, none⟩), .int .u8 ci] w fun e w' => e = .returned v ∧ LineAt w' (fun k => lo ≤ k) g s' ∧ Below lo w w' := by
  subst hci; subst hv; subst hn
  exact feedL_lo w lo g s c h hs hlo
theorem newL_lo (w : World) :
    Calls Try.prog 16 #[] w fun e w' => ∃ g, e = .returned (.pointer (some ⟨g, 0, none⟩)) ∧ LineAt w' (fun k => w.heap.size ≤ k) g Ln.start ∧ Below w.heap.size w w' := by
  refine (newLines_any w).mono ?_
  rintro e w' ⟨rfl, hL, hB⟩
  exact ⟨_, rfl, hL, hB⟩

set_option maxHeartbeats 800000 in
theorem linesBegun_any (w : World) :
    Calls Try.prog 15 #[] w fun e w' => e = .returned (.bool true) ∧ Below w.heap.size w w' := by
  have HN := Hid.mk' (newL_lo w)
  go_enter Try.func15, Try.ntmps15
  go_wp2_with fail
  refine HN.out.mono ?_
  rintro e w1 ⟨g, rfl, hL1, hb1⟩
  have F1 := Hid.mk' (feedL_c w1 w.heap.size g Ln.start 97 97 (.tuple #[.string ⟨#[]⟩, .bool false, .int .i64 0]) ⟨[97], false, 0⟩ rfl rfl rfl hL1 (by decide) hb1.size)
  have B1 := Hid.mk' hb1
  clear HN hL1 hb1
  go_wp2_with fail
  refine F1.out.mono ?_
  rintro e w2 ⟨rfl, hL2, hb2⟩
  have B2 := Hid.mk' (B1.out.trans hb2)
  have F2 := Hid.mk' (feedL_c w2 w.heap.size g ⟨[97], false, 0⟩ 13 13 (.tuple #[.string ⟨#[]⟩, .bool false, .int .i64 0]) ⟨[97], true, 0⟩ rfl rfl rfl hL2 (by decide) B2.out.size)
  clear F1 hL2 hb2 B1
  go_wp2_with fail
  refine F2.out.mono ?_
  rintro e w3 ⟨rfl, hL3, hb3⟩
  have B3 := Hid.mk' (B2.out.trans hb3)
  have F3 := Hid.mk' (feedL_c w3 w.heap.size g ⟨[97], true, 0⟩ 10 10 (.tuple #[.string ⟨#[97]⟩, .bool true, .int .i64 0]) ⟨[], false, 0⟩ rfl rfl rfl hL3 (by decide) B3.out.size)
  clear F2 hL3 hb3 B2
  go_wp2_with fail
  refine F3.out.mono ?_
  rintro e w4 ⟨rfl, hL4, hb4⟩
  have B4 := Hid.mk' (B3.out.trans hb4)
  have F4 := Hid.mk' (feedL_c w4 w.heap.size g ⟨[], false, 0⟩ 10 10 (.tuple #[.string ⟨#[]⟩, .bool false, .int .i64 2]) ⟨[], false, 2⟩ rfl rfl rfl hL4 (by decide) B4.out.size)
  clear F3 hL4 hb4 B3
  go_wp2_with fail
  refine F4.out.mono ?_
  rintro e w5 ⟨rfl, hL5, hb5⟩
  have B5 := Hid.mk' (B4.out.trans hb5)
  clear F4 hL5 hb5 B4
  go_wp2
  go_ret
  exact ⟨rfl, B5.out⟩
end Go.Proofs.Ytemgjebgncmglaa
