/- Package spool, walked: a step at an upload, by each closure that takes one. -/
import Derived.Test.YtdclmpdjjkjfjaaGreatDoorPk18
namespace Go.Proofs.YtdclmpdjjkjfjaaGreatDoor
open Go.RowKit

set_option maxRecDepth 100000 in
set_option maxHeartbeats 800000 in
theorem change_end (s : Sp.St) (S : Nat → Prop) (g : Nat) (id : Int) (w : World) (h : SpoolAt w S g s) (hN : s.l.length ≤ 1000) (F : Nat → Sp.Up → Sp.St × Nat)
    (hF : ∀ w1 i gu (hi : i < s.l.length), Below w.heap.size w w1 → SpoolAt w1 S g s → RowAt w1 g gu s.l.length → Calls Tryz.prog 140 #[.pointer (some ⟨gu, i * 5, none⟩)] w1 (Did S 88 w1 g (F i s.l[i]))) :
    Calls Tryz.prog 132 #[.pointer (some ⟨g, 0, none⟩), .int .i64 id, .func (.func 140) #[] #[]] w (Did S 88 w g (Sp.atUp s id F)) := by
  have HI := Hid.mk' (findU_any s S g id w h hN)
  have HA := Hid.mk' h
  have HF := Hid.mk' hF
  clear h hF
  cases hp : Sp.place s.l id with
  | none =>
    rw [Sp.pl_none hp] at HI
    have HR : Hid (∀ W, Below w.heap.size w W → Did S 88 w g (Sp.atUp s id F) (.returned (.int .i64 (10 : Nat))) W) := fun W hb => Did.none_ HA.out hb (Sp.atUp_none hp)
    clear hp
    go_enter Tryz.func132, Tryz.ntmps132
    go_wp2_with fail
    refine HI.out.mono ?_
    rintro e w1 ⟨rfl, hb⟩
    have HB := Hid.mk' hb
    clear hb
    go_wp2
    go_ret
    exact HR.out _ HB.out
  | some i =>
    rw [Sp.pl_some hp] at HI
    have hi := Sp.place_lt hp
    have hat : Sp.atUp s id F = F i (s.l[i]'hi) := Sp.atUp_some hp
    clear hp
    have HT := Hid.mk' hat
    clear hat
    go_enter Tryz.func132, Tryz.ntmps132
    go_wp2_with fail
    refine HI.out.mono ?_
    rintro e w1 ⟨rfl, hb⟩
    have h1 := HA.out.stay hb
    obtain ⟨gu, hgu⟩ := RowAt.of h1 hi
    have HC := Hid.mk' (HF.out w1 i gu hi hb h1 hgu)
    have HB := Hid.mk' hb
    obtain ⟨cap, hcap, hc⟩ := hgu
    have hi' : (i : Int) < s.l.length := by omega
    have HD : Hid (∀ e w2, Did S 88 w1 g (F i s.l[i]) e w2 → Did S 88 w g (Sp.atUp s id F) e w2 ∧ ∃ c : Nat, e = .returned (.int .i64 (c : Int))) := fun e w2 hd => by
      have hsz := hb.size
      refine ⟨⟨by rw [HT.out]; exact hd.ret, ?_, (Turns.of_below hb).trans hd.turns (fun _ e _ => e)⟩, _, hd.ret⟩
      rw [HT.out]
      refine hd.at_.mono (fun k _ e => ?_)
      rcases e with e | e
      · exact Or.inl e
      · exact Or.inr (by omega)
    clear hb h1 HT HA HF HI
    generalize F i s.l[i] = r at *
    generalize Sp.atUp s id F = r2 at *
    generalize s.l.length = n at *
    go_wp2_with fail
    refine HC.out.mono ?_
    intro e w2 hd
    obtain ⟨hd2, c, rfl⟩ := HD.out e w2 hd
    have HD2 := Hid.mk' hd2
    clear hd hd2 HD
    go_wp2
    go_ret
    exact HD2.out
set_option maxRecDepth 100000 in
set_option maxHeartbeats 800000 in
theorem change_beg (s : Sp.St) (S : Nat → Prop) (g : Nat) (id : Int) (w : World) (h : SpoolAt w S g s) (hN : s.l.length ≤ 1000) (F : Nat → Sp.Up → Sp.St × Nat)
    (hF : ∀ w1 i gu (hi : i < s.l.length), Below w.heap.size w w1 → SpoolAt w1 S g s → RowAt w1 g gu s.l.length → Calls Tryz.prog 138 #[.pointer (some ⟨gu, i * 5, none⟩)] w1 (Did S 88 w1 g (F i s.l[i]))) :
    Calls Tryz.prog 132 #[.pointer (some ⟨g, 0, none⟩), .int .i64 id, .func (.func 138) #[] #[]] w (Did S 88 w g (Sp.atUp s id F)) := by
  have HI := Hid.mk' (findU_any s S g id w h hN)
  have HA := Hid.mk' h
  have HF := Hid.mk' hF
  clear h hF
  cases hp : Sp.place s.l id with
  | none =>
    rw [Sp.pl_none hp] at HI
    have HR : Hid (∀ W, Below w.heap.size w W → Did S 88 w g (Sp.atUp s id F) (.returned (.int .i64 (10 : Nat))) W) := fun W hb => Did.none_ HA.out hb (Sp.atUp_none hp)
    clear hp
    go_enter Tryz.func132, Tryz.ntmps132
    go_wp2_with fail
    refine HI.out.mono ?_
    rintro e w1 ⟨rfl, hb⟩
    have HB := Hid.mk' hb
    clear hb
    go_wp2
    go_ret
    exact HR.out _ HB.out
  | some i =>
    rw [Sp.pl_some hp] at HI
    have hi := Sp.place_lt hp
    have hat : Sp.atUp s id F = F i (s.l[i]'hi) := Sp.atUp_some hp
    clear hp
    have HT := Hid.mk' hat
    clear hat
    go_enter Tryz.func132, Tryz.ntmps132
    go_wp2_with fail
    refine HI.out.mono ?_
    rintro e w1 ⟨rfl, hb⟩
    have h1 := HA.out.stay hb
    obtain ⟨gu, hgu⟩ := RowAt.of h1 hi
    have HC := Hid.mk' (HF.out w1 i gu hi hb h1 hgu)
    have HB := Hid.mk' hb
    obtain ⟨cap, hcap, hc⟩ := hgu
    have hi' : (i : Int) < s.l.length := by omega
    have HD : Hid (∀ e w2, Did S 88 w1 g (F i s.l[i]) e w2 → Did S 88 w g (Sp.atUp s id F) e w2 ∧ ∃ c : Nat, e = .returned (.int .i64 (c : Int))) := fun e w2 hd => by
      have hsz := hb.size
      refine ⟨⟨by rw [HT.out]; exact hd.ret, ?_, (Turns.of_below hb).trans hd.turns (fun _ e _ => e)⟩, _, hd.ret⟩
      rw [HT.out]
      refine hd.at_.mono (fun k _ e => ?_)
      rcases e with e | e
      · exact Or.inl e
      · exact Or.inr (by omega)
    clear hb h1 HT HA HF HI
    generalize F i s.l[i] = r at *
    generalize Sp.atUp s id F = r2 at *
    generalize s.l.length = n at *
    go_wp2_with fail
    refine HC.out.mono ?_
    intro e w2 hd
    obtain ⟨hd2, c, rfl⟩ := HD.out e w2 hd
    have HD2 := Hid.mk' hd2
    clear hd hd2 HD
    go_wp2
    go_ret
    exact HD2.out
set_option maxRecDepth 100000 in
set_option maxHeartbeats 800000 in
theorem change_dec (s : Sp.St) (S : Nat → Prop) (g : Nat) (id : Int) (w : World) (h : SpoolAt w S g s) (hN : s.l.length ≤ 1000) (b1 : Nat) (F : Nat → Sp.Up → Sp.St × Nat)
    (hF : ∀ w1 i gu (hi : i < s.l.length), Below w.heap.size w w1 → SpoolAt w1 S g s → RowAt w1 g gu s.l.length → Calls Tryz.prog 136 #[.pointer (some ⟨gu, i * 5, none⟩), .pointer (some ⟨b1, 0, none⟩)] w1 (Did S 88 w1 g (F i s.l[i]))) :
    Calls Tryz.prog 132 #[.pointer (some ⟨g, 0, none⟩), .int .i64 id, .func (.func 136) #[] #[.pointer (some ⟨b1, 0, none⟩)]] w (Did S 88 w g (Sp.atUp s id F)) := by
  have HI := Hid.mk' (findU_any s S g id w h hN)
  have HA := Hid.mk' h
  have HF := Hid.mk' hF
  clear h hF
  cases hp : Sp.place s.l id with
  | none =>
    rw [Sp.pl_none hp] at HI
    have HR : Hid (∀ W, Below w.heap.size w W → Did S 88 w g (Sp.atUp s id F) (.returned (.int .i64 (10 : Nat))) W) := fun W hb => Did.none_ HA.out hb (Sp.atUp_none hp)
    clear hp
    go_enter Tryz.func132, Tryz.ntmps132
    go_wp2_with fail
    refine HI.out.mono ?_
    rintro e w1 ⟨rfl, hb⟩
    have HB := Hid.mk' hb
    clear hb
    go_wp2
    go_ret
    exact HR.out _ HB.out
  | some i =>
    rw [Sp.pl_some hp] at HI
    have hi := Sp.place_lt hp
    have hat : Sp.atUp s id F = F i (s.l[i]'hi) := Sp.atUp_some hp
    clear hp
    have HT := Hid.mk' hat
    clear hat
    go_enter Tryz.func132, Tryz.ntmps132
    go_wp2_with fail
    refine HI.out.mono ?_
    rintro e w1 ⟨rfl, hb⟩
    have h1 := HA.out.stay hb
    obtain ⟨gu, hgu⟩ := RowAt.of h1 hi
    have HC := Hid.mk' (HF.out w1 i gu hi hb h1 hgu)
    have HB := Hid.mk' hb
    obtain ⟨cap, hcap, hc⟩ := hgu
    have hi' : (i : Int) < s.l.length := by omega
    have HD : Hid (∀ e w2, Did S 88 w1 g (F i s.l[i]) e w2 → Did S 88 w g (Sp.atUp s id F) e w2 ∧ ∃ c : Nat, e = .returned (.int .i64 (c : Int))) := fun e w2 hd => by
      have hsz := hb.size
      refine ⟨⟨by rw [HT.out]; exact hd.ret, ?_, (Turns.of_below hb).trans hd.turns (fun _ e _ => e)⟩, _, hd.ret⟩
      rw [HT.out]
      refine hd.at_.mono (fun k _ e => ?_)
      rcases e with e | e
      · exact Or.inl e
      · exact Or.inr (by omega)
    clear hb h1 HT HA HF HI
    generalize F i s.l[i] = r at *
    generalize Sp.atUp s id F = r2 at *
    generalize s.l.length = n at *
    go_wp2_with fail
    refine HC.out.mono ?_
    intro e w2 hd
    obtain ⟨hd2, c, rfl⟩ := HD.out e w2 hd
    have HD2 := Hid.mk' hd2
    clear hd hd2 HD
    go_wp2
    go_ret
    exact HD2.out
set_option maxRecDepth 100000 in
set_option maxHeartbeats 800000 in
theorem change_app (s : Sp.St) (S : Nat → Prop) (g : Nat) (id : Int) (w : World) (h : SpoolAt w S g s) (hN : s.l.length ≤ 1000) (b1 b2 b3 : Nat) (F : Nat → Sp.Up → Sp.St × Nat)
    (hF : ∀ w1 i gu (hi : i < s.l.length), Below w.heap.size w w1 → SpoolAt w1 S g s → RowAt w1 g gu s.l.length → Calls Tryz.prog 133 #[.pointer (some ⟨gu, i * 5, none⟩), .pointer (some ⟨b1, 0, none⟩), .pointer (some ⟨b2, 0, none⟩), .pointer (some ⟨b3, 0, none⟩)] w1 (Did S 88 w1 g (F i s.l[i]))) :
    Calls Tryz.prog 132 #[.pointer (some ⟨g, 0, none⟩), .int .i64 id, .func (.func 133) #[] #[.pointer (some ⟨b1, 0, none⟩), .pointer (some ⟨b2, 0, none⟩), .pointer (some ⟨b3, 0, none⟩)]] w (Did S 88 w g (Sp.atUp s id F)) := by
  have HI := Hid.mk' (findU_any s S g id w h hN)
  have HA := Hid.mk' h
  have HF := Hid.mk' hF
  clear h hF
  cases hp : Sp.place s.l id with
  | none =>
    rw [Sp.pl_none hp] at HI
    have HR : Hid (∀ W, Below w.heap.size w W → Did S 88 w g (Sp.atUp s id F) (.returned (.int .i64 (10 : Nat))) W) := fun W hb => Did.none_ HA.out hb (Sp.atUp_none hp)
    clear hp
    go_enter Tryz.func132, Tryz.ntmps132
    go_wp2_with fail
    refine HI.out.mono ?_
    rintro e w1 ⟨rfl, hb⟩
    have HB := Hid.mk' hb
    clear hb
    go_wp2
    go_ret
    exact HR.out _ HB.out
  | some i =>
    rw [Sp.pl_some hp] at HI
    have hi := Sp.place_lt hp
    have hat : Sp.atUp s id F = F i (s.l[i]'hi) := Sp.atUp_some hp
    clear hp
    have HT := Hid.mk' hat
    clear hat
    go_enter Tryz.func132, Tryz.ntmps132
    go_wp2_with fail
    refine HI.out.mono ?_
    rintro e w1 ⟨rfl, hb⟩
    have h1 := HA.out.stay hb
    obtain ⟨gu, hgu⟩ := RowAt.of h1 hi
    have HC := Hid.mk' (HF.out w1 i gu hi hb h1 hgu)
    have HB := Hid.mk' hb
    obtain ⟨cap, hcap, hc⟩ := hgu
    have hi' : (i : Int) < s.l.length := by omega
    have HD : Hid (∀ e w2, Did S 88 w1 g (F i s.l[i]) e w2 → Did S 88 w g (Sp.atUp s id F) e w2 ∧ ∃ c : Nat, e = .returned (.int .i64 (c : Int))) := fun e w2 hd => by
      have hsz := hb.size
      refine ⟨⟨by rw [HT.out]; exact hd.ret, ?_, (Turns.of_below hb).trans hd.turns (fun _ e _ => e)⟩, _, hd.ret⟩
      rw [HT.out]
      refine hd.at_.mono (fun k _ e => ?_)
      rcases e with e | e
      · exact Or.inl e
      · exact Or.inr (by omega)
    clear hb h1 HT HA HF HI
    generalize F i s.l[i] = r at *
    generalize Sp.atUp s id F = r2 at *
    generalize s.l.length = n at *
    go_wp2_with fail
    refine HC.out.mono ?_
    intro e w2 hd
    obtain ⟨hd2, c, rfl⟩ := HD.out e w2 hd
    have HD2 := Hid.mk' hd2
    clear hd hd2 HD
    go_wp2
    go_ret
    exact HD2.out
end Go.Proofs.YtdclmpdjjkjfjaaGreatDoor
