/- The statements' own: storeBegun, walked. -/
import Derived.Test.YtanpocgojmflgaaDoorPk19
import Derived.Lib.SlBytesConst
namespace Go.Proofs.YtanpocgojmflgaaDoor
open Go.RowKit

def tb0 : Sp.St := ⟨[⟨1, 3, ⟨#[]⟩, [], 0⟩], 1⟩
def tb1 : Sp.St := ⟨[⟨1, 3, ⟨#[]⟩, [97, 98], 0⟩], 1⟩
def te1 : Jn.E := ⟨1, 1, 3, []⟩
def te2 : Jn.E := ⟨2, 1, 0, [97, 98]⟩
theorem tb_made : Sr.made Sp.new 3 ⟨#[]⟩ = (tb0, 0) := by
  unfold Sr.made Sp.create
  rw [if_neg (by decide), if_neg (by decide), if_neg, if_neg (by decide)]
  · rfl
  · decide
theorem te1_enc : Jn.enc te1 = [4, 2, 2, 4] := by
  simp [Jn.enc, Jn.inn, Jn.head, Jn.nb, te1, Jn.num_small]
theorem te2_enc : Jn.enc te2 = [6, 3, 2, 1, 97, 98] := by
  simp [Jn.enc, Jn.inn, Jn.head, Jn.nb, te2, Jn.num_small]
def ts1 : Sr.Sh := ⟨tb0, [4, 2, 2, 4], 0⟩
def ts2 : Sr.Sh := ⟨tb0, [4, 2, 2, 4], 4⟩
def ts3 : Sr.Sh := ⟨tb1, [4, 2, 2, 4, 6, 3, 2, 1, 97, 98], 4⟩
theorem ts_1 : Sr.create Sr.new 3 ⟨#[]⟩ = (ts1, 0) := by
  have e : (⟨1, Sr.new.h.last + 1, 3, (⟨#[]⟩ : ByteArray).data.toList⟩ : Jn.E) = te1 := rfl
  have hm : Sr.made Sr.new.h 3 ⟨#[]⟩ = (tb0, 0) := tb_made
  unfold Sr.create
  rw [e, hm, Sr.write_yes rfl (by decide) (by rw [te1_enc]; decide), te1_enc]
  rfl
theorem ts_2 : Sr.sync ts1 = ts2 := rfl
theorem ts_3 : Sr.append ts2 1 0 [97, 98] = (ts3, 0) := by
  have e : (⟨2, 1, 0, [97, 98]⟩ : Jn.E) = te2 := rfl
  have hm : Sp.append ts2.h 1 0 [97, 98] = (tb1, 0) := by rfl
  unfold Sr.append
  rw [e, hm, Sr.write_yes rfl (by decide) (by rw [te2_enc]; decide), te2_enc]
  rfl
theorem ts_4 : Sr.crash ts3 0 = ts2 := by
  have hl : Sr.left ts3 0 = 4 := by decide
  have hd : Jn.dec ([4, 2, 2, 4] : List UInt8) = ([te1], 4) := by
    have := Jn.dec_some (Jn.one_enc (e := te1) (by decide) [])
    rw [te1_enc] at this
    simpa [Jn.dec_none Jn.one_nil] using this
  have ht : ts3.log.take 4 = [4, 2, 2, 4] := rfl
  unfold Sr.crash
  rw [hl, ht, hd]
  have hp : Sr.playAll Sp.new [te1] = tb0 := by
    show (Sr.played Sp.new te1).1 = tb0
    have : Sr.played Sp.new te1 = Sr.made Sp.new 3 ⟨#[]⟩ := rfl
    rw [this, tb_made]
  simp only
  rw [hp]
  rfl
theorem tk1 : Sr.Ok ts1 := by have := Sr.Ok.create Sr.Ok.new 3 ⟨#[]⟩; rw [ts_1] at this; exact this
theorem tk2 : Sr.Ok ts2 := tk1.sync
theorem tk3 : Sr.Ok ts3 := by have := tk2.append 1 0 [97, 98]; rw [ts_3] at this; exact this
section
variable {B : Nat} {w w' : World} {g : Nat}
/-- a store all of whose memory is new -/
abbrev StNew (B : Nat) (w : World) (g : Nat) (s : Sr.Sh) : Prop := StAt w (fun k => B ≤ k) g s
theorem StAt.new_ {s : Sr.Sh} (h : StAt w' (orNew (fun k => B ≤ k) w) g s) (ht : Turns (fun k => B ≤ k) w w') (hB : B ≤ w.heap.size) : StNew B w' g s ∧ Below B w w' := by
  refine ⟨h.mono (fun k _ e => ?_), ht.below (fun k e => e) hB⟩
  rcases e with e | e
  · exact e
  · exact Nat.le_trans hB e
end
set_option maxRecDepth 100000 in
set_option maxHeartbeats 2000000 in
theorem storeBegun_any (w : World) :
    Calls Tryd.prog 5 #[] w fun e w' => e = .returned (.bool true) ∧ Below w.heap.size w w' := by
  have H0 := Hid.mk' (newSt_any w)
  have H1 : Hid (∀ W g, Below w.heap.size w W → StNew w.heap.size W g Sr.new → Calls Tryd.prog 18 #[.pointer (some ⟨g, 0, none⟩), .int .i64 3, .string ⟨#[]⟩] W fun e w' => e = .returned (.tuple #[.int .i64 1, .int .i64 0]) ∧ StNew w.heap.size w' g ts1 ∧ Below w.heap.size w w') := fun W g hW hS => (createSt_any hS Sr.Ok.new 3 ⟨#[]⟩ (by decide)).mono fun e w' hm => by
    rw [ts_1] at hm
    obtain ⟨h2, h3⟩ := hm.at_.new_ hm.turns hW.size
    exact ⟨hm.ret, h2, hW.trans h3⟩
  have H2 : Hid (∀ W g, Below w.heap.size w W → StNew w.heap.size W g ts1 → Calls Tryd.prog 17 #[.pointer (some ⟨g, 0, none⟩)] W fun e w' => e = .returned (.tuple #[]) ∧ StNew w.heap.size w' g ts2 ∧ Below w.heap.size w w') := fun W g hW hS => (syncSt_any hS).mono fun e w' hm => by
    rw [ts_2] at hm
    exact ⟨hm.1, hm.2.1, hW.trans (hm.2.2.below (fun k e => e) hW.size)⟩
  have H3 : Hid (∀ W g, Below w.heap.size w W → StNew w.heap.size W g ts2 → Calls Tryd.prog 19 #[.pointer (some ⟨g, 0, none⟩), .int .i64 1, .int .i64 0, .slice (some ⟨W.heap.size, 0, none⟩) 2 2] (W.alloc (.cells #[.int .u8 97, .int .u8 98] 5 (2, 3))) fun e w' => e = .returned (.int .i64 0) ∧ StNew w.heap.size w' g ts3 ∧ Below w.heap.size w w') := fun W g hW hS => (appendSt_any (hS.stay ((Below.refl _ _).alloc (Nat.le_refl _) _)) tk2 1 0 _ 2 2 [97, 98] (isB_ab W) rfl (by decide)).mono fun e w' hm => by
    rw [ts_3] at hm
    have hb : Below w.heap.size w (W.alloc (.cells #[.int .u8 97, .int .u8 98] 5 (2, 3))) := hW.alloc hW.size _
    obtain ⟨h2, h3⟩ := hm.at_.new_ hm.turns hb.size
    exact ⟨hm.ret, h2, hb.trans h3⟩
  have H4 : Hid (∀ W g, Below w.heap.size w W → StNew w.heap.size W g ts3 → Calls Tryd.prog 10 #[.pointer (some ⟨g, 0, none⟩), .int .i64 0] W fun e w' => e = .returned (.tuple #[]) ∧ ∃ gs, w'.cell? ⟨g, 0, none⟩ = some (.pointer (some ⟨gs, 0, none⟩)) ∧ SpNew w.heap.size w' gs tb0 ∧ Below w.heap.size w w') := fun W g hW hS => (crashSt_any hS tk3 0).mono fun e w' hm => by
    rw [ts_4] at hm
    obtain ⟨h2, h3⟩ := hm.2.at_.new_ hm.2.turns hW.size
    obtain ⟨gs, gl, ao, ca, P, hI⟩ := h2
    exact ⟨hm.1, gs, (row2 hI.row).1.1, hI.spool.mono (fun k _ e => (hI.inP k e).1), hW.trans h3⟩
  have H5 : Hid (∀ W gs, Below w.heap.size w W → SpNew w.heap.size W gs tb0 → Calls Tryd.prog 16 #[.pointer (some ⟨gs, 0, none⟩), .int .i64 1] W fun e w' => ∃ ao cap, e = .returned (.tuple #[.agg #[.int .i64 1, .int .i64 3, .string ⟨#[]⟩, .slice ao 0 cap, .int .i64 0], .bool true]) ∧ Below w.heap.size w w') := fun W gs hW hS => (getU_some tb0 _ gs 1 0 W hS tk2.h (by decide) (by decide)).mono fun e w' hm => by
    obtain ⟨ao, cap, h1, _, h3⟩ := hm
    exact ⟨ao, cap, h1, hW.trans (h3.mono hW.size)⟩
  have kc := fun (w : World) (C : Array Value) (n c : Nat) => Lib.run_convert_bytes_const (P := Tryd.prog) w 43 5 C n c Tryd.underlying43 Tryd.underlying5
  go_enter Tryd.func5, Tryd.ntmps5
  go_wp2_with (first
    | (go_at_call 7; refine H0.out.mono ?_; rintro e w1 ⟨g, rfl, hs, hb⟩; have S1 := Hid.mk' hs; have B1 := Hid.mk' hb; clear hs hb)
    | (go_at_call 18; refine (H1.out _ _ B1.out S1.out).mono ?_; rintro e w2 ⟨rfl, hs, hb⟩; have S2 := Hid.mk' hs; have B2 := Hid.mk' hb; clear hs hb)
    | (go_at_call 17; refine (H2.out _ _ B2.out S2.out).mono ?_; rintro e w3 ⟨rfl, hs, hb⟩; have S3 := Hid.mk' hs; have B3 := Hid.mk' hb; clear hs hb)
    | (go_at_call 19; refine (H3.out _ _ B3.out S3.out).mono ?_; rintro e w4 ⟨rfl, hs, hb⟩; have S4 := Hid.mk' hs; have B4 := Hid.mk' hb; clear hs hb)
    | (go_at_call 10; refine (H4.out _ _ B4.out S4.out).mono ?_; rintro e w5 ⟨rfl, gs, c0, hs, hb⟩; have S5 := Hid.mk' hs; have B5 := Hid.mk' hb; clear hs hb)
    | (go_at_call 16; refine (H5.out _ _ B5.out S5.out).mono ?_; rintro e w6 ⟨ao, cap, rfl, hb⟩; have B6 := Hid.mk' (hb.alloc hb.size (.cells #[.int .i64 1, .int .i64 3, .string ⟨#[]⟩, .slice ao 0 cap, .int .i64 0] 53)); clear hb))
  go_ret
  exact ⟨rfl, B6.out⟩
end Go.Proofs.YtanpocgojmflgaaDoor
