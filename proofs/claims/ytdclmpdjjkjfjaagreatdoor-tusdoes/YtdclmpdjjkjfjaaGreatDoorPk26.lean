/- Small texts, one behind the other: StG, StB, SpN, StC, StD, StE, StF. -/
import Derived.Test.YtdclmpdjjkjfjaaGreatDoorPk6
import Derived.Test.YtdclmpdjjkjfjaaGreatDoorSqJ
import Derived.Test.YtdclmpdjjkjfjaaGreatDoorPk19
import Derived.Test.YtdclmpdjjkjfjaaGreatDoorSqH
import Derived.Test.YtdclmpdjjkjfjaaGreatDoorPk21
import Derived.Test.YtdclmpdjjkjfjaaGreatDoorJrD
import Derived.Test.YtdclmpdjjkjfjaaGreatDoorPk18
import Derived.Deep.RegionHeld3
/- Package store, walked: redo. -/
namespace Go.Proofs.YtdclmpdjjkjfjaaGreatDoor
open Go.RowKit

/-- what became of a spool to which something was done, whatever was answered -/
structure Redid (S : Nat → Prop) (tO : Nat) (w : World) (g : Nat) (s : Sp.St) (w' : World) : Prop where
  at_ : SpAt w' (orNew S w) tO 67 5 g s
  turns : Turns S w w'
theorem Redid.from_ {S : Nat → Prop} {tO g : Nat} {w w1 w' : World} {s : Sp.St} (hb : Below w.heap.size w w1) (h : Redid S tO w1 g s w') : Redid S tO w g s w' := by
  have hsz := hb.size
  refine ⟨h.at_.mono (fun k _ e => ?_), (Turns.of_below hb).trans h.turns (fun _ e _ => e)⟩
  rcases e with e | e
  · exact Or.inl e
  · exact Or.inr (by omega)
theorem played_1 {s : Sp.St} {e : Jn.E} (h : e.kind = 1) : (Sr.played s e).1 = (Sp.create s e.n (Sr.ofL e.text)).1 := by unfold Sr.played; rw [if_pos h]; rfl
theorem played_2 {s : Sp.St} {e : Jn.E} (h : e.kind = 2) : Sr.played s e = Sp.append s e.id (Sr.lenOf s e.id) e.text := by unfold Sr.played; rw [if_neg (by omega), if_pos h]
theorem played_3 {s : Sp.St} {e : Jn.E} (h : e.kind = 3) : Sr.played s e = Sp.declare s e.id e.n := by unfold Sr.played; rw [if_neg (by omega), if_neg (by omega), if_pos h]
theorem played_4 {s : Sp.St} {e : Jn.E} (h : e.kind = 4) : Sr.played s e = Sp.drop s e.id := by unfold Sr.played; rw [if_neg (by omega), if_neg (by omega), if_neg (by omega), if_pos h]
theorem played_5 {s : Sp.St} {e : Jn.E} (h : e.kind = 5) : Sr.played s e = Sp.begins s e.id := by unfold Sr.played; rw [if_neg (by omega), if_neg (by omega), if_neg (by omega), if_neg (by omega), if_pos h]
theorem played_6 {s : Sp.St} {e : Jn.E} (h : e.kind = 6) : Sr.played s e = Sp.ends s e.id := by unfold Sr.played; rw [if_neg (by omega), if_neg (by omega), if_neg (by omega), if_neg (by omega), if_neg (by omega)]
set_option maxRecDepth 100000 in
set_option maxHeartbeats 3200000 in
theorem redo_any (s : Sp.St) (S : Nat → Prop) (g : Nat) (x : Jn.E) (ta : Option Addr) (tn tc : Nat) (w : World) (h : SpoolAt w S g s) (ok : Sp.Ok s) (hl : s.last ≤ 1000000) (hT : IsB w ta tc x.text) (hn : x.text.length = tn) (hN : tn ≤ 1000000) (hk : 1 ≤ x.kind ∧ x.kind ≤ 6) :
    Calls Tryz.prog 70 #[.pointer (some ⟨g, 0, none⟩), .agg #[.int .i64 x.kind, .int .i64 x.id, .int .i64 x.n, .slice ta tn tc]] w fun e w' => e = .returned (.tuple #[]) ∧ Redid S 88 w g (Sr.played s x).1 w' := by
  have hbA := (Below.refl _ w).alloc (Nat.le_refl _) (.cells #[.int .i64 x.kind, .int .i64 x.id, .int .i64 x.n, .slice ta tn tc] 121)
  have h1 := h.stay hbA
  have hT1 := hT.stay hbA
  obtain ⟨⟨x0, x1, x2, x3⟩, _⟩ := row4 (heap_alloc_new w (.cells #[.int .i64 x.kind, .int .i64 x.id, .int .i64 x.n, .slice ta tn tc] 121))
  obtain ⟨W, hW⟩ : ∃ W, (w.alloc (.cells #[.int .i64 x.kind, .int .i64 x.id, .int .i64 x.n, .slice ta tn tc] 121)) = W := ⟨_, rfl⟩
  have hwl : w.heap.size < W.heap.size := by rw [← hW]; simp
  rw [hW] at hbA h1 hT1 x0 x1 x2 x3
  have hcv := hT1.str (P := Tryz.prog) 30 9 5 Tryz.underlying30 Tryz.underlying5 Tryz.underlying9
  rw [hn] at hcv
  have hms : (Sr.ofL x.text).size ≤ 1000000 := by rw [Sr.ofL_size]; omega
  have HB := Hid.mk' hbA
  obtain hk1 | hk1 | hk1 | hk1 | hk1 | hk1 : x.kind = 1 ∨ x.kind = 2 ∨ x.kind = 3 ∨ x.kind = 4 ∨ x.kind = 5 ∨ x.kind = 6 := by omega
  · have HC := Hid.mk' (createU_any s S g x.n (Sr.ofL x.text) W h1 ok hl hms)
    have HP := Hid.mk' (played_1 (s := s) hk1)
    rw [show (⟨x.text.toArray⟩ : ByteArray) = Sr.ofL x.text from rfl] at hcv
    rw [hk1] at x0 hW ⊢
    clear h ok hl hT hn hk hT1 h1 hk1 hbA hms
    generalize Sp.create s x.n (Sr.ofL x.text) = q at *
    generalize Sr.ofL x.text = m at *
    go_enter Tryz.func70, Tryz.ntmps70
    go_wp2_with fail
    refine HC.out.mono ?_
    intro e w2 hd
    have HR : Hid (Redid S 88 w g (Sr.played s x).1 w2) := Redid.from_ HB.out (by rw [HP.out]; exact ⟨hd.at_, hd.turns⟩)
    obtain ⟨rfl, _, _⟩ := hd
    go_wp2
    go_end0
    exact ⟨rfl, HR.out⟩
  · have HP := Hid.mk' (played_2 (s := s) hk1)
    have HA : Hid (∀ w2, Below W.heap.size W w2 → Calls Tryz.prog 100 #[.pointer (some ⟨g, 0, none⟩), .int .i64 x.id, .int .i64 (Sr.lenOf s x.id), .slice ta tn tc] w2 (Did S 88 w2 g (Sp.append s x.id (Sr.lenOf s x.id) x.text))) := fun w2 hb2 => appendU_any s S g x.id _ ta tn tc x.text w2 (h1.stay hb2) ok (hT1.stay hb2) hn hN
    have HCl : Hid (∀ w2, Below W.heap.size W w2 → w2.cell? ⟨w.heap.size, 1, none⟩ = some (.int .i64 x.id) ∧ w2.cell? ⟨w.heap.size, 3, none⟩ = some (.slice ta tn tc)) := fun w2 hb2 => ⟨(hb2.cell (p := ⟨w.heap.size, 1, none⟩) hwl).trans x1, (hb2.cell (p := ⟨w.heap.size, 3, none⟩) hwl).trans x3⟩
    cases hp : Sp.place s.l x.id with
    | none =>
      have HG := Hid.mk' (getU_none s S g x.id W h1 ok hp)
      rw [Sr.lenOf_none hp] at HA HP
      rw [hk1] at x0 hW ⊢
      clear h ok hl hT hn hk hT1 h1 hk1 hbA hms hp hcv
      generalize Sp.append s x.id _ x.text = q at *
      go_enter Tryz.func70, Tryz.ntmps70
      go_wp2_with fail
      refine HG.out.mono ?_
      rintro e w2 ⟨rfl, hb2⟩
      have hbB := (Below.refl _ w2).alloc (Nat.le_refl _) (.cells #[.int .i64 0, .int .i64 0, .string ⟨#[]⟩, .slice none 0 0, .int .i64 0] 67)
      have hb3 := then_ hb2 hbB
      have HC := Hid.mk' (HA.out _ hb3)
      obtain ⟨y1, y3⟩ := HCl.out _ hb3
      have HB3 := Hid.mk' (then_ HB.out hb3)
      clear hb2 hbB hb3 HA HCl x0 x1 x2 x3
      go_wp2_with fail
      refine HC.out.mono ?_
      intro e w4 hd
      have HR : Hid (Redid S 88 w g (Sr.played s x).1 w4) := Redid.from_ HB3.out (by rw [HP.out]; exact ⟨hd.at_, hd.turns⟩)
      obtain ⟨rfl, _, _⟩ := hd
      go_wp2
      go_end0
      exact ⟨rfl, HR.out⟩
    | some i =>
      have hi := Sp.place_lt hp
      have HG := Hid.mk' (getU_some s S g x.id i W h1 ok hp hi)
      have hL : Sr.lenOf s x.id = s.l[i].bytes.length := Sr.lenOf_some hp
      rw [hL] at HA HP
      rw [hk1] at x0 hW ⊢
      clear h ok hl hT hn hk hT1 h1 hk1 hbA hms hp hcv hL
      generalize s.l[i] = u at *
      generalize Sp.append s x.id _ x.text = q at *
      go_enter Tryz.func70, Tryz.ntmps70
      go_wp2_with fail
      refine HG.out.mono ?_
      rintro e w2 ⟨bo, bc, rfl, _, hb2⟩
      have hbB := (Below.refl _ w2).alloc (Nat.le_refl _) (.cells #[.int .i64 u.id, .int .i64 u.size, .string u.note, .slice bo u.bytes.length bc, .int .i64 u.sent] 67)
      have hb3 := then_ hb2 hbB
      have HC := Hid.mk' (HA.out _ hb3)
      obtain ⟨y1, y3⟩ := HCl.out _ hb3
      have HB3 := Hid.mk' (then_ HB.out hb3)
      clear hb2 hbB hb3 HA HCl x0 x1 x2 x3
      go_wp2_with fail
      refine HC.out.mono ?_
      intro e w4 hd
      have HR : Hid (Redid S 88 w g (Sr.played s x).1 w4) := Redid.from_ HB3.out (by rw [HP.out]; exact ⟨hd.at_, hd.turns⟩)
      obtain ⟨rfl, _, _⟩ := hd
      go_wp2
      go_end0
      exact ⟨rfl, HR.out⟩
  · have HC := Hid.mk' (declareU_any s S g x.id x.n W h1 ok)
    have HP := Hid.mk' (played_3 (s := s) hk1)
    rw [hk1] at x0 hW ⊢
    clear h ok hl hT hn hk hT1 h1 hk1 hbA hms hcv
    generalize Sp.declare s x.id x.n = q at *
    go_enter Tryz.func70, Tryz.ntmps70
    go_wp2_with fail
    refine HC.out.mono ?_
    intro e w2 hd
    have HR : Hid (Redid S 88 w g (Sr.played s x).1 w2) := Redid.from_ HB.out (by rw [HP.out]; exact ⟨hd.at_, hd.turns⟩)
    obtain ⟨rfl, _, _⟩ := hd
    go_wp2
    go_end0
    exact ⟨rfl, HR.out⟩
  · have HC := Hid.mk' (dropU_any s S g x.id W h1 ok)
    have HP := Hid.mk' (played_4 (s := s) hk1)
    rw [hk1] at x0 hW ⊢
    clear h ok hl hT hn hk hT1 h1 hk1 hbA hms hcv
    generalize Sp.drop s x.id = q at *
    go_enter Tryz.func70, Tryz.ntmps70
    go_wp2_with fail
    refine HC.out.mono ?_
    intro e w2 hd
    have HR : Hid (Redid S 88 w g (Sr.played s x).1 w2) := Redid.from_ HB.out (by rw [HP.out]; exact ⟨hd.at_, hd.turns⟩)
    obtain ⟨rfl, _, _⟩ := hd
    go_wp2
    go_end0
    exact ⟨rfl, HR.out⟩
  · have HC := Hid.mk' (beginU_any s S g x.id W h1 ok)
    have HP := Hid.mk' (played_5 (s := s) hk1)
    rw [hk1] at x0 hW ⊢
    clear h ok hl hT hn hk hT1 h1 hk1 hbA hms hcv
    generalize Sp.begins s x.id = q at *
    go_enter Tryz.func70, Tryz.ntmps70
    go_wp2_with fail
    refine HC.out.mono ?_
    intro e w2 hd
    have HR : Hid (Redid S 88 w g (Sr.played s x).1 w2) := Redid.from_ HB.out (by rw [HP.out]; exact ⟨hd.at_, hd.turns⟩)
    obtain ⟨rfl, _, _⟩ := hd
    go_wp2
    go_end0
    exact ⟨rfl, HR.out⟩
  · have HC := Hid.mk' (endU_any s S g x.id W h1 ok)
    have HP := Hid.mk' (played_6 (s := s) hk1)
    rw [hk1] at x0 hW ⊢
    clear h ok hl hT hn hk hT1 h1 hk1 hbA hms hcv
    generalize Sp.ends s x.id = q at *
    go_enter Tryz.func70, Tryz.ntmps70
    go_wp2_with fail
    refine HC.out.mono ?_
    intro e w2 hd
    have HR : Hid (Redid S 88 w g (Sr.played s x).1 w2) := Redid.from_ HB.out (by rw [HP.out]; exact ⟨hd.at_, hd.turns⟩)
    obtain ⟨rfl, _, _⟩ := hd
    go_wp2
    go_end0
    exact ⟨rfl, HR.out⟩
end Go.Proofs.YtdclmpdjjkjfjaaGreatDoor

/- Package store, walked: the closures that are handed to step. -/
namespace Go.Proofs.YtdclmpdjjkjfjaaGreatDoor
open Go.RowKit

set_option maxHeartbeats 800000 in
theorem close_drp (s : Sp.St) (S : Nat → Prop) (g b1 : Nat) (id : Int) (w : World) (h : SpoolAt w S g s) (ok : Sp.Ok s) (d1 : w.cell? ⟨b1, 0, none⟩ = some (.int .i64 id)) :
    Calls Tryz.prog 117 #[.pointer (some ⟨g, 0, none⟩), .pointer (some ⟨b1, 0, none⟩)] w (Did S 88 w g (Sp.drop s id)) := by
  have HC := Hid.mk' (dropU_any s S g id w h ok)
  generalize Sp.drop s id = r at *
  clear ok h
  go_enter Tryz.func117, Tryz.ntmps117
  go_wp2_with fail
  refine HC.out.mono ?_
  intro e w2 hd
  have HD := Hid.mk' hd
  obtain ⟨rfl, _, _⟩ := hd
  go_wp2
  go_ret
  exact HD.out
set_option maxHeartbeats 800000 in
theorem close_dec (s : Sp.St) (S : Nat → Prop) (g b1 b2 : Nat) (id : Int) (sz : Int) (w : World) (h : SpoolAt w S g s) (ok : Sp.Ok s) (d1 : w.cell? ⟨b1, 0, none⟩ = some (.int .i64 id)) (d2 : w.cell? ⟨b2, 0, none⟩ = some (.int .i64 sz)) :
    Calls Tryz.prog 116 #[.pointer (some ⟨g, 0, none⟩), .pointer (some ⟨b1, 0, none⟩), .pointer (some ⟨b2, 0, none⟩)] w (Did S 88 w g (Sp.declare s id sz)) := by
  have HC := Hid.mk' (declareU_any s S g id sz w h ok)
  generalize Sp.declare s id sz = r at *
  clear ok h
  go_enter Tryz.func116, Tryz.ntmps116
  go_wp2_with fail
  refine HC.out.mono ?_
  intro e w2 hd
  have HD := Hid.mk' hd
  obtain ⟨rfl, _, _⟩ := hd
  go_wp2
  go_ret
  exact HD.out
set_option maxHeartbeats 800000 in
theorem close_app (s : Sp.St) (S : Nat → Prop) (g b1 b2 b3 : Nat) (id : Int) (off : Int) (bo : Option Addr) (bn bc : Nat) (l : List UInt8) (w : World) (h : SpoolAt w S g s) (ok : Sp.Ok s) (d1 : w.cell? ⟨b1, 0, none⟩ = some (.int .i64 id)) (d2 : w.cell? ⟨b2, 0, none⟩ = some (.int .i64 off)) (d3 : w.cell? ⟨b3, 0, none⟩ = some (.slice bo bn bc)) (hb : IsB w bo bc l) (hn : l.length = bn) (hN : bn ≤ 1000000) :
    Calls Tryz.prog 115 #[.pointer (some ⟨g, 0, none⟩), .pointer (some ⟨b1, 0, none⟩), .pointer (some ⟨b2, 0, none⟩), .pointer (some ⟨b3, 0, none⟩)] w (Did S 88 w g (Sp.append s id off l)) := by
  have HC := Hid.mk' (appendU_any s S g id off bo bn bc l w h ok hb hn hN)
  generalize Sp.append s id off l = r at *
  clear hN hn hb ok h
  go_enter Tryz.func115, Tryz.ntmps115
  go_wp2_with fail
  refine HC.out.mono ?_
  intro e w2 hd
  have HD := Hid.mk' hd
  obtain ⟨rfl, _, _⟩ := hd
  go_wp2
  go_ret
  exact HD.out
set_option maxHeartbeats 800000 in
theorem close_cre (s : Sp.St) (S : Nat → Prop) (g b1 b2 : Nat) (sz : Int) (m : ByteArray) (w : World) (h : SpoolAt w S g s) (ok : Sp.Ok s) (d1 : w.cell? ⟨b1, 0, none⟩ = some (.int .i64 sz)) (d2 : w.cell? ⟨b2, 0, none⟩ = some (.string m)) (hl : s.last ≤ 1000000) (hm : m.size ≤ 1000000) :
    Calls Tryz.prog 107 #[.pointer (some ⟨g, 0, none⟩), .pointer (some ⟨b1, 0, none⟩), .pointer (some ⟨b2, 0, none⟩)] w (Did S 88 w g (Sr.made s sz m)) := by
  have HC := Hid.mk' (createU_any s S g sz m w h ok hl hm)
  have HP : Hid (Sr.made s sz m = ((Sp.create s sz m).1, (Sp.create s sz m).2.2)) := rfl
  generalize Sp.create s sz m = q at *
  obtain ⟨q1, q2, q3⟩ := q
  generalize Sr.made s sz m = r at *
  clear hm hl ok h
  go_enter Tryz.func107, Tryz.ntmps107
  go_wp2_with fail
  refine HC.out.mono ?_
  intro e w2 hd
  have HD : Hid (Did S 88 w g r (.returned (.int .i64 (q3 : Int))) w2) := by
    rw [HP.out]; exact ⟨rfl, hd.at_, hd.turns⟩
  obtain ⟨rfl, _, _⟩ := hd
  go_wp2
  go_ret
  exact HD.out
end Go.Proofs.YtdclmpdjjkjfjaaGreatDoor

/- A spool all of whose memory is new; two short texts as bytes. -/
namespace Go.Proofs.YtdclmpdjjkjfjaaGreatDoor
open Go.RowKit

/-- a spool all of whose memory is new -/
abbrev SpNew (B : Nat) (w : World) (g : Nat) (s : Sp.St) : Prop := SpoolAt w (fun k => B ≤ k) g s
theorem Did.new_ {B : Nat} {w w' : World} {g : Nat} {r : Sp.St × Nat} {e : Ending} (h : Did (fun k => B ≤ k) 88 w g r e w') (hB : B ≤ w.heap.size) : e = .returned (.int .i64 (r.2 : Int)) ∧ SpNew B w' g r.1 ∧ Below B w w' := by
  refine ⟨h.ret, h.at_.mono (fun k _ e => ?_), h.turns.below (fun k e => e) hB⟩
  rcases e with e | e
  · exact e
  · omega
theorem Made.new_ {B : Nat} {w w' : World} {g : Nat} {r : Sp.St × Int × Nat} {e : Ending} (h : Made (fun k => B ≤ k) 88 w g r e w') (hB : B ≤ w.heap.size) : e = .returned (.tuple #[.int .i64 r.2.1, .int .i64 (r.2.2 : Int)]) ∧ SpNew B w' g r.1 ∧ Below B w w' := by
  refine ⟨h.ret, h.at_.mono (fun k _ e => ?_), h.turns.below (fun k e => e) hB⟩
  rcases e with e | e
  · exact e
  · omega
theorem isB_ab (W : World) : IsB (W.alloc (.cells #[.int .u8 97, .int .u8 98] 5 (2, 3))) (some ⟨W.heap.size, 0, none⟩) 2 [97, 98] := by
  refine ⟨Nat.le_refl _, fun e => by simp at e, fun j hj => ⟨_, rfl, ?_⟩⟩
  rw [Addr.add_lit, World.cell?_alloc_mark, Nat.zero_add]
  match j, hj with
  | 0, _ => rfl
  | 1, _ => rfl
theorem isB_c (W : World) : IsB (W.alloc (.cells #[.int .u8 99] 5 (1, 2))) (some ⟨W.heap.size, 0, none⟩) 1 [99] := by
  refine ⟨Nat.le_refl _, fun e => by simp at e, fun j hj => ⟨_, rfl, ?_⟩⟩
  rw [Addr.add_lit, World.cell?_alloc_mark, Nat.zero_add]
  match j, hj with
  | 0, _ => rfl
end Go.Proofs.YtdclmpdjjkjfjaaGreatDoor

/- Package store, walked: step, by each closure that is handed to it. -/
namespace Go.Proofs.YtdclmpdjjkjfjaaGreatDoor
open Go.RowKit

theorem encOut_no {x : Jn.E} (h : Jn.fits x = false) : encOut x = ([], 1) := by unfold encOut; rw [if_neg (by simp [h])]
theorem encOut_yes {x : Jn.E} (h : Jn.fits x = true) : encOut x = (Jn.enc x, 0) := by unfold encOut; rw [if_pos h]
theorem small_of {s : Sp.St} (ok : Sp.Ok s) : SmallU s.l := Sp.Ok.small ok
set_option maxRecDepth 100000 in
set_option maxHeartbeats 1600000 in
theorem step_drp (s : Sr.Sh) (S : Nat → Prop) (g b1 : Nat) (x : Jn.E) (ta : Option Addr) (tn tc : Nat) (r : Sp.St × Nat) (w : World) (h : StAt w S g s) (ok : Sr.Ok s) (hT : IsB w ta tc x.text) (hn : x.text.length = tn)
    (hF : ∀ W g', Below w.heap.size w W → w.heap.size + 1 ≤ W.heap.size → SpoolAt W (fun k => w.heap.size + 1 ≤ k) g' s.h → Calls Tryz.prog 117 #[.pointer (some ⟨g', 0, none⟩), .pointer (some ⟨b1, 0, none⟩)] W (Did (fun k => w.heap.size + 1 ≤ k) 88 W g' r)) :
    Calls Tryz.prog 106 #[.pointer (some ⟨g, 0, none⟩), .agg #[.int .i64 x.kind, .int .i64 x.id, .int .i64 x.n, .slice ta tn tc], .func (.func 117) #[] #[.pointer (some ⟨b1, 0, none⟩)]] w (StDid S w g (Sr.write s r x)) := by
  obtain ⟨gs, gl, ao, ca, P, hI⟩ := h
  have hbA := (Below.refl _ w).alloc (Nat.le_refl _) (.cells #[.int .i64 x.kind, .int .i64 x.id, .int .i64 x.n, .slice ta tn tc] 121)
  have hI1 := hI.stay hbA
  obtain ⟨⟨c0, c1⟩, _⟩ := row2 hI1.row
  have HC := Hid.mk' (copyU_any s.h P gs _ hI1.spool (small_of ok.h))
  have HI := Hid.mk' hI; have HBA := Hid.mk' hbA; have HF := Hid.mk' hF; have HT := Hid.mk' hT
  have hlt := hI.lt
  clear hI hI1 hbA hF hT
  go_enter Tryz.func106, Tryz.ntmps106
  go_wp2_with fail
  refine HC.out.mono ?_
  rintro e w2 ⟨g', rfl, hS2, hb2⟩
  have hB2 : Below w.heap.size w w2 := then_ HBA.out hb2
  have HD := Hid.mk' (HF.out w2 g' hB2 (by have := hb2.size; simpa using this) (hS2.mono (fun k _ e => by simpa using e)))
  have HB2 := Hid.mk' hB2; have Hb2 := Hid.mk' hb2
  clear hS2 hb2 hB2 HC HF c0 c1
  go_wp2_with fail
  refine HD.out.mono ?_
  intro e w3 hd
  have hsz2 := Hb2.out.size
  have hs3 : w.heap.size + 1 ≤ w2.heap.size := by simpa using hsz2
  obtain ⟨he, hS3, hb3⟩ := hd.new_ hs3
  have hbx : Below (w.heap.size + 1) (w.alloc (.cells #[.int .i64 x.kind, .int .i64 x.id, .int .i64 x.n, .slice ta tn tc] 121)) w3 := (Hb2.out.mono (by simp)).trans hb3
  have hB3 : Below w.heap.size w w3 := HB2.out.trans (hb3.mono (Nat.le_succ _))
  obtain ⟨x0, x1, x2, x3⟩ := cells4 (Nat.lt_succ_self _) hbx
  have HB3 := Hid.mk' hB3; have HS3 := Hid.mk' hS3
  clear hd hS3 hb3 hbx hB3 hsz2 hs3 HD HB2 Hb2
  subst he
  by_cases hc : r.2 = 0
  · have HX := Hid.mk' (encode_any x ta tn tc w3 (HT.out.stay HB3.out) hn)
    rw [hc]
    cases hf : Jn.fits x with
    | false =>
      have HR : Hid (∀ W, Below w.heap.size w W → StDid S w g (Sr.write s r x) (.returned (.int .i64 (1 : Nat))) W) := fun W hb => StDid.none_ ⟨gs, gl, ao, ca, P, HI.out⟩ hb (Sr.write_bad hc hf)
      unfold EncPost at HX
      rw [encOut_no hf] at HX
      clear hc hf HI
      go_wp2_with fail
      refine HX.out.mono ?_
      rintro e w4 ⟨ao4, ca4, rfl, _, hb4⟩
      have HB4 := Hid.mk' (then_ HB3.out hb4)
      clear hb4
      go_wp2
      go_ret
      exact HR.out _ HB4.out
    | true =>
      unfold EncPost at HX
      rw [encOut_yes hf] at HX
      have hlx : (Jn.enc x).length ≤ 1048600 := by have := Jn.enc_len hf; have := Jn.inn_len hf; omega
      by_cases hl : 100000 < s.log.length + (Jn.enc x).length
      · have HR : Hid (∀ W, Below w.heap.size w W → StDid S w g (Sr.write s r x) (.returned (.int .i64 (16 : Nat))) W) := fun W hb => StDid.none_ ⟨gs, gl, ao, ca, P, HI.out⟩ hb (Sr.write_full hc hf hl)
        have HL := Hid.mk' (show ¬ s.log.length + (Jn.enc x).length ≤ 100000 by omega)
        clear hc hf hl
        generalize Jn.enc x = y at *
        go_wp2_with fail
        refine HX.out.mono ?_
        rintro e w4 ⟨ao4, ca4, rfl, _, hb4⟩
        have hB4 := then_ HB3.out hb4
        have hI4 := HI.out.stay hB4
        obtain ⟨⟨c0, c1⟩, _⟩ := row2 hI4.row
        have HW := Hid.mk' (writeLog_no hI4.log ao4 ca4 y.length HL.out)
        have HB4 := Hid.mk' hB4
        clear hb4 hB4 hI4
        go_wp2_with fail
        refine HW.out.mono ?_
        rintro e w5 ⟨rfl, hw5⟩
        rw [hw5]; clear hw5
        go_wp2
        go_ret
        exact HR.out _ HB4.out
      · have HR : Hid (∀ W, StAt W (orNew S w) g ⟨r.1, s.log ++ Jn.enc x, s.sure⟩ → Turns S w W → StDid S w g (Sr.write s r x) (.returned (.int .i64 0)) W) := fun W h1 h2 => by
          rw [Sr.write_yes hc hf hl]; exact ⟨rfl, h1, h2⟩
        have HL := Hid.mk' (show s.log.length + (Jn.enc x).length ≤ 100000 by omega)
        clear hc hf hl
        generalize Jn.enc x = y at *
        go_wp2_with fail
        refine HX.out.mono ?_
        rintro e w4 ⟨ao4, ca4, rfl, hO4, hb4⟩
        have hB4 := then_ HB3.out hb4
        have hI4 := HI.out.stay hB4
        obtain ⟨⟨c0, c1⟩, _⟩ := row2 hI4.row
        have HW := Hid.mk' (writeLog_yes hI4.log ao4 ca4 y.length y hO4.isB rfl HL.out)
        have HS4 := Hid.mk' (((HS3.out.stay hb4).mono (S' := fun k => w.heap.size ≤ k) (fun k _ e => Nat.le_of_succ_le e)))
        have HB4 := Hid.mk' hB4
        clear hb4 hB4 hI4 hO4
        go_wp2_with fail
        refine HW.out.mono ?_
        rintro e w5 ⟨ao5, ca5, rfl, hL5, ht5, hat5⟩
        obtain ⟨hr5, hA, hTu⟩ := HI.out.laid HB4.out HS4.out hL5 ht5 hat5
        obtain ⟨⟨y0, y1⟩, z0, z1⟩ := row2 hr5
        have HA := Hid.mk' hA; have HTu := Hid.mk' hTu
        clear hL5 ht5 hat5 hr5 hA hTu c0 c1
        go_wp2
        go_ret
        exact HR.out _ HA.out HTu.out
  · have HR : Hid (StDid S w g (Sr.write s r x) (.returned (.int .i64 (r.2 : Int))) w3) := StDid.none_ ⟨gs, gl, ao, ca, P, HI.out⟩ HB3.out (Sr.write_code hc)
    have hc' : ¬ (r.2 : Int) = 0 := by omega
    clear hc
    generalize (r.2 : Int) = rc at *
    go_wp2
    go_ret
    exact HR.out
set_option maxRecDepth 100000 in
set_option maxHeartbeats 1600000 in
theorem step_dec (s : Sr.Sh) (S : Nat → Prop) (g b1 b2 : Nat) (x : Jn.E) (ta : Option Addr) (tn tc : Nat) (r : Sp.St × Nat) (w : World) (h : StAt w S g s) (ok : Sr.Ok s) (hT : IsB w ta tc x.text) (hn : x.text.length = tn)
    (hF : ∀ W g', Below w.heap.size w W → w.heap.size + 1 ≤ W.heap.size → SpoolAt W (fun k => w.heap.size + 1 ≤ k) g' s.h → Calls Tryz.prog 116 #[.pointer (some ⟨g', 0, none⟩), .pointer (some ⟨b1, 0, none⟩), .pointer (some ⟨b2, 0, none⟩)] W (Did (fun k => w.heap.size + 1 ≤ k) 88 W g' r)) :
    Calls Tryz.prog 106 #[.pointer (some ⟨g, 0, none⟩), .agg #[.int .i64 x.kind, .int .i64 x.id, .int .i64 x.n, .slice ta tn tc], .func (.func 116) #[] #[.pointer (some ⟨b1, 0, none⟩), .pointer (some ⟨b2, 0, none⟩)]] w (StDid S w g (Sr.write s r x)) := by
  obtain ⟨gs, gl, ao, ca, P, hI⟩ := h
  have hbA := (Below.refl _ w).alloc (Nat.le_refl _) (.cells #[.int .i64 x.kind, .int .i64 x.id, .int .i64 x.n, .slice ta tn tc] 121)
  have hI1 := hI.stay hbA
  obtain ⟨⟨c0, c1⟩, _⟩ := row2 hI1.row
  have HC := Hid.mk' (copyU_any s.h P gs _ hI1.spool (small_of ok.h))
  have HI := Hid.mk' hI; have HBA := Hid.mk' hbA; have HF := Hid.mk' hF; have HT := Hid.mk' hT
  have hlt := hI.lt
  clear hI hI1 hbA hF hT
  go_enter Tryz.func106, Tryz.ntmps106
  go_wp2_with fail
  refine HC.out.mono ?_
  rintro e w2 ⟨g', rfl, hS2, hb2⟩
  have hB2 : Below w.heap.size w w2 := then_ HBA.out hb2
  have HD := Hid.mk' (HF.out w2 g' hB2 (by have := hb2.size; simpa using this) (hS2.mono (fun k _ e => by simpa using e)))
  have HB2 := Hid.mk' hB2; have Hb2 := Hid.mk' hb2
  clear hS2 hb2 hB2 HC HF c0 c1
  go_wp2_with fail
  refine HD.out.mono ?_
  intro e w3 hd
  have hsz2 := Hb2.out.size
  have hs3 : w.heap.size + 1 ≤ w2.heap.size := by simpa using hsz2
  obtain ⟨he, hS3, hb3⟩ := hd.new_ hs3
  have hbx : Below (w.heap.size + 1) (w.alloc (.cells #[.int .i64 x.kind, .int .i64 x.id, .int .i64 x.n, .slice ta tn tc] 121)) w3 := (Hb2.out.mono (by simp)).trans hb3
  have hB3 : Below w.heap.size w w3 := HB2.out.trans (hb3.mono (Nat.le_succ _))
  obtain ⟨x0, x1, x2, x3⟩ := cells4 (Nat.lt_succ_self _) hbx
  have HB3 := Hid.mk' hB3; have HS3 := Hid.mk' hS3
  clear hd hS3 hb3 hbx hB3 hsz2 hs3 HD HB2 Hb2
  subst he
  by_cases hc : r.2 = 0
  · have HX := Hid.mk' (encode_any x ta tn tc w3 (HT.out.stay HB3.out) hn)
    rw [hc]
    cases hf : Jn.fits x with
    | false =>
      have HR : Hid (∀ W, Below w.heap.size w W → StDid S w g (Sr.write s r x) (.returned (.int .i64 (1 : Nat))) W) := fun W hb => StDid.none_ ⟨gs, gl, ao, ca, P, HI.out⟩ hb (Sr.write_bad hc hf)
      unfold EncPost at HX
      rw [encOut_no hf] at HX
      clear hc hf HI
      go_wp2_with fail
      refine HX.out.mono ?_
      rintro e w4 ⟨ao4, ca4, rfl, _, hb4⟩
      have HB4 := Hid.mk' (then_ HB3.out hb4)
      clear hb4
      go_wp2
      go_ret
      exact HR.out _ HB4.out
    | true =>
      unfold EncPost at HX
      rw [encOut_yes hf] at HX
      have hlx : (Jn.enc x).length ≤ 1048600 := by have := Jn.enc_len hf; have := Jn.inn_len hf; omega
      by_cases hl : 100000 < s.log.length + (Jn.enc x).length
      · have HR : Hid (∀ W, Below w.heap.size w W → StDid S w g (Sr.write s r x) (.returned (.int .i64 (16 : Nat))) W) := fun W hb => StDid.none_ ⟨gs, gl, ao, ca, P, HI.out⟩ hb (Sr.write_full hc hf hl)
        have HL := Hid.mk' (show ¬ s.log.length + (Jn.enc x).length ≤ 100000 by omega)
        clear hc hf hl
        generalize Jn.enc x = y at *
        go_wp2_with fail
        refine HX.out.mono ?_
        rintro e w4 ⟨ao4, ca4, rfl, _, hb4⟩
        have hB4 := then_ HB3.out hb4
        have hI4 := HI.out.stay hB4
        obtain ⟨⟨c0, c1⟩, _⟩ := row2 hI4.row
        have HW := Hid.mk' (writeLog_no hI4.log ao4 ca4 y.length HL.out)
        have HB4 := Hid.mk' hB4
        clear hb4 hB4 hI4
        go_wp2_with fail
        refine HW.out.mono ?_
        rintro e w5 ⟨rfl, hw5⟩
        rw [hw5]; clear hw5
        go_wp2
        go_ret
        exact HR.out _ HB4.out
      · have HR : Hid (∀ W, StAt W (orNew S w) g ⟨r.1, s.log ++ Jn.enc x, s.sure⟩ → Turns S w W → StDid S w g (Sr.write s r x) (.returned (.int .i64 0)) W) := fun W h1 h2 => by
          rw [Sr.write_yes hc hf hl]; exact ⟨rfl, h1, h2⟩
        have HL := Hid.mk' (show s.log.length + (Jn.enc x).length ≤ 100000 by omega)
        clear hc hf hl
        generalize Jn.enc x = y at *
        go_wp2_with fail
        refine HX.out.mono ?_
        rintro e w4 ⟨ao4, ca4, rfl, hO4, hb4⟩
        have hB4 := then_ HB3.out hb4
        have hI4 := HI.out.stay hB4
        obtain ⟨⟨c0, c1⟩, _⟩ := row2 hI4.row
        have HW := Hid.mk' (writeLog_yes hI4.log ao4 ca4 y.length y hO4.isB rfl HL.out)
        have HS4 := Hid.mk' (((HS3.out.stay hb4).mono (S' := fun k => w.heap.size ≤ k) (fun k _ e => Nat.le_of_succ_le e)))
        have HB4 := Hid.mk' hB4
        clear hb4 hB4 hI4 hO4
        go_wp2_with fail
        refine HW.out.mono ?_
        rintro e w5 ⟨ao5, ca5, rfl, hL5, ht5, hat5⟩
        obtain ⟨hr5, hA, hTu⟩ := HI.out.laid HB4.out HS4.out hL5 ht5 hat5
        obtain ⟨⟨y0, y1⟩, z0, z1⟩ := row2 hr5
        have HA := Hid.mk' hA; have HTu := Hid.mk' hTu
        clear hL5 ht5 hat5 hr5 hA hTu c0 c1
        go_wp2
        go_ret
        exact HR.out _ HA.out HTu.out
  · have HR : Hid (StDid S w g (Sr.write s r x) (.returned (.int .i64 (r.2 : Int))) w3) := StDid.none_ ⟨gs, gl, ao, ca, P, HI.out⟩ HB3.out (Sr.write_code hc)
    have hc' : ¬ (r.2 : Int) = 0 := by omega
    clear hc
    generalize (r.2 : Int) = rc at *
    go_wp2
    go_ret
    exact HR.out
set_option maxRecDepth 100000 in
set_option maxHeartbeats 1600000 in
theorem step_app (s : Sr.Sh) (S : Nat → Prop) (g b1 b2 b3 : Nat) (x : Jn.E) (ta : Option Addr) (tn tc : Nat) (r : Sp.St × Nat) (w : World) (h : StAt w S g s) (ok : Sr.Ok s) (hT : IsB w ta tc x.text) (hn : x.text.length = tn)
    (hF : ∀ W g', Below w.heap.size w W → w.heap.size + 1 ≤ W.heap.size → SpoolAt W (fun k => w.heap.size + 1 ≤ k) g' s.h → Calls Tryz.prog 115 #[.pointer (some ⟨g', 0, none⟩), .pointer (some ⟨b1, 0, none⟩), .pointer (some ⟨b2, 0, none⟩), .pointer (some ⟨b3, 0, none⟩)] W (Did (fun k => w.heap.size + 1 ≤ k) 88 W g' r)) :
    Calls Tryz.prog 106 #[.pointer (some ⟨g, 0, none⟩), .agg #[.int .i64 x.kind, .int .i64 x.id, .int .i64 x.n, .slice ta tn tc], .func (.func 115) #[] #[.pointer (some ⟨b1, 0, none⟩), .pointer (some ⟨b2, 0, none⟩), .pointer (some ⟨b3, 0, none⟩)]] w (StDid S w g (Sr.write s r x)) := by
  obtain ⟨gs, gl, ao, ca, P, hI⟩ := h
  have hbA := (Below.refl _ w).alloc (Nat.le_refl _) (.cells #[.int .i64 x.kind, .int .i64 x.id, .int .i64 x.n, .slice ta tn tc] 121)
  have hI1 := hI.stay hbA
  obtain ⟨⟨c0, c1⟩, _⟩ := row2 hI1.row
  have HC := Hid.mk' (copyU_any s.h P gs _ hI1.spool (small_of ok.h))
  have HI := Hid.mk' hI; have HBA := Hid.mk' hbA; have HF := Hid.mk' hF; have HT := Hid.mk' hT
  have hlt := hI.lt
  clear hI hI1 hbA hF hT
  go_enter Tryz.func106, Tryz.ntmps106
  go_wp2_with fail
  refine HC.out.mono ?_
  rintro e w2 ⟨g', rfl, hS2, hb2⟩
  have hB2 : Below w.heap.size w w2 := then_ HBA.out hb2
  have HD := Hid.mk' (HF.out w2 g' hB2 (by have := hb2.size; simpa using this) (hS2.mono (fun k _ e => by simpa using e)))
  have HB2 := Hid.mk' hB2; have Hb2 := Hid.mk' hb2
  clear hS2 hb2 hB2 HC HF c0 c1
  go_wp2_with fail
  refine HD.out.mono ?_
  intro e w3 hd
  have hsz2 := Hb2.out.size
  have hs3 : w.heap.size + 1 ≤ w2.heap.size := by simpa using hsz2
  obtain ⟨he, hS3, hb3⟩ := hd.new_ hs3
  have hbx : Below (w.heap.size + 1) (w.alloc (.cells #[.int .i64 x.kind, .int .i64 x.id, .int .i64 x.n, .slice ta tn tc] 121)) w3 := (Hb2.out.mono (by simp)).trans hb3
  have hB3 : Below w.heap.size w w3 := HB2.out.trans (hb3.mono (Nat.le_succ _))
  obtain ⟨x0, x1, x2, x3⟩ := cells4 (Nat.lt_succ_self _) hbx
  have HB3 := Hid.mk' hB3; have HS3 := Hid.mk' hS3
  clear hd hS3 hb3 hbx hB3 hsz2 hs3 HD HB2 Hb2
  subst he
  by_cases hc : r.2 = 0
  · have HX := Hid.mk' (encode_any x ta tn tc w3 (HT.out.stay HB3.out) hn)
    rw [hc]
    cases hf : Jn.fits x with
    | false =>
      have HR : Hid (∀ W, Below w.heap.size w W → StDid S w g (Sr.write s r x) (.returned (.int .i64 (1 : Nat))) W) := fun W hb => StDid.none_ ⟨gs, gl, ao, ca, P, HI.out⟩ hb (Sr.write_bad hc hf)
      unfold EncPost at HX
      rw [encOut_no hf] at HX
      clear hc hf HI
      go_wp2_with fail
      refine HX.out.mono ?_
      rintro e w4 ⟨ao4, ca4, rfl, _, hb4⟩
      have HB4 := Hid.mk' (then_ HB3.out hb4)
      clear hb4
      go_wp2
      go_ret
      exact HR.out _ HB4.out
    | true =>
      unfold EncPost at HX
      rw [encOut_yes hf] at HX
      have hlx : (Jn.enc x).length ≤ 1048600 := by have := Jn.enc_len hf; have := Jn.inn_len hf; omega
      by_cases hl : 100000 < s.log.length + (Jn.enc x).length
      · have HR : Hid (∀ W, Below w.heap.size w W → StDid S w g (Sr.write s r x) (.returned (.int .i64 (16 : Nat))) W) := fun W hb => StDid.none_ ⟨gs, gl, ao, ca, P, HI.out⟩ hb (Sr.write_full hc hf hl)
        have HL := Hid.mk' (show ¬ s.log.length + (Jn.enc x).length ≤ 100000 by omega)
        clear hc hf hl
        generalize Jn.enc x = y at *
        go_wp2_with fail
        refine HX.out.mono ?_
        rintro e w4 ⟨ao4, ca4, rfl, _, hb4⟩
        have hB4 := then_ HB3.out hb4
        have hI4 := HI.out.stay hB4
        obtain ⟨⟨c0, c1⟩, _⟩ := row2 hI4.row
        have HW := Hid.mk' (writeLog_no hI4.log ao4 ca4 y.length HL.out)
        have HB4 := Hid.mk' hB4
        clear hb4 hB4 hI4
        go_wp2_with fail
        refine HW.out.mono ?_
        rintro e w5 ⟨rfl, hw5⟩
        rw [hw5]; clear hw5
        go_wp2
        go_ret
        exact HR.out _ HB4.out
      · have HR : Hid (∀ W, StAt W (orNew S w) g ⟨r.1, s.log ++ Jn.enc x, s.sure⟩ → Turns S w W → StDid S w g (Sr.write s r x) (.returned (.int .i64 0)) W) := fun W h1 h2 => by
          rw [Sr.write_yes hc hf hl]; exact ⟨rfl, h1, h2⟩
        have HL := Hid.mk' (show s.log.length + (Jn.enc x).length ≤ 100000 by omega)
        clear hc hf hl
        generalize Jn.enc x = y at *
        go_wp2_with fail
        refine HX.out.mono ?_
        rintro e w4 ⟨ao4, ca4, rfl, hO4, hb4⟩
        have hB4 := then_ HB3.out hb4
        have hI4 := HI.out.stay hB4
        obtain ⟨⟨c0, c1⟩, _⟩ := row2 hI4.row
        have HW := Hid.mk' (writeLog_yes hI4.log ao4 ca4 y.length y hO4.isB rfl HL.out)
        have HS4 := Hid.mk' (((HS3.out.stay hb4).mono (S' := fun k => w.heap.size ≤ k) (fun k _ e => Nat.le_of_succ_le e)))
        have HB4 := Hid.mk' hB4
        clear hb4 hB4 hI4 hO4
        go_wp2_with fail
        refine HW.out.mono ?_
        rintro e w5 ⟨ao5, ca5, rfl, hL5, ht5, hat5⟩
        obtain ⟨hr5, hA, hTu⟩ := HI.out.laid HB4.out HS4.out hL5 ht5 hat5
        obtain ⟨⟨y0, y1⟩, z0, z1⟩ := row2 hr5
        have HA := Hid.mk' hA; have HTu := Hid.mk' hTu
        clear hL5 ht5 hat5 hr5 hA hTu c0 c1
        go_wp2
        go_ret
        exact HR.out _ HA.out HTu.out
  · have HR : Hid (StDid S w g (Sr.write s r x) (.returned (.int .i64 (r.2 : Int))) w3) := StDid.none_ ⟨gs, gl, ao, ca, P, HI.out⟩ HB3.out (Sr.write_code hc)
    have hc' : ¬ (r.2 : Int) = 0 := by omega
    clear hc
    generalize (r.2 : Int) = rc at *
    go_wp2
    go_ret
    exact HR.out
set_option maxRecDepth 100000 in
set_option maxHeartbeats 1600000 in
theorem step_cre (s : Sr.Sh) (S : Nat → Prop) (g b1 b2 : Nat) (x : Jn.E) (ta : Option Addr) (tn tc : Nat) (r : Sp.St × Nat) (w : World) (h : StAt w S g s) (ok : Sr.Ok s) (hT : IsB w ta tc x.text) (hn : x.text.length = tn)
    (hF : ∀ W g', Below w.heap.size w W → w.heap.size + 1 ≤ W.heap.size → SpoolAt W (fun k => w.heap.size + 1 ≤ k) g' s.h → Calls Tryz.prog 107 #[.pointer (some ⟨g', 0, none⟩), .pointer (some ⟨b1, 0, none⟩), .pointer (some ⟨b2, 0, none⟩)] W (Did (fun k => w.heap.size + 1 ≤ k) 88 W g' r)) :
    Calls Tryz.prog 106 #[.pointer (some ⟨g, 0, none⟩), .agg #[.int .i64 x.kind, .int .i64 x.id, .int .i64 x.n, .slice ta tn tc], .func (.func 107) #[] #[.pointer (some ⟨b1, 0, none⟩), .pointer (some ⟨b2, 0, none⟩)]] w (StDid S w g (Sr.write s r x)) := by
  obtain ⟨gs, gl, ao, ca, P, hI⟩ := h
  have hbA := (Below.refl _ w).alloc (Nat.le_refl _) (.cells #[.int .i64 x.kind, .int .i64 x.id, .int .i64 x.n, .slice ta tn tc] 121)
  have hI1 := hI.stay hbA
  obtain ⟨⟨c0, c1⟩, _⟩ := row2 hI1.row
  have HC := Hid.mk' (copyU_any s.h P gs _ hI1.spool (small_of ok.h))
  have HI := Hid.mk' hI; have HBA := Hid.mk' hbA; have HF := Hid.mk' hF; have HT := Hid.mk' hT
  have hlt := hI.lt
  clear hI hI1 hbA hF hT
  go_enter Tryz.func106, Tryz.ntmps106
  go_wp2_with fail
  refine HC.out.mono ?_
  rintro e w2 ⟨g', rfl, hS2, hb2⟩
  have hB2 : Below w.heap.size w w2 := then_ HBA.out hb2
  have HD := Hid.mk' (HF.out w2 g' hB2 (by have := hb2.size; simpa using this) (hS2.mono (fun k _ e => by simpa using e)))
  have HB2 := Hid.mk' hB2; have Hb2 := Hid.mk' hb2
  clear hS2 hb2 hB2 HC HF c0 c1
  go_wp2_with fail
  refine HD.out.mono ?_
  intro e w3 hd
  have hsz2 := Hb2.out.size
  have hs3 : w.heap.size + 1 ≤ w2.heap.size := by simpa using hsz2
  obtain ⟨he, hS3, hb3⟩ := hd.new_ hs3
  have hbx : Below (w.heap.size + 1) (w.alloc (.cells #[.int .i64 x.kind, .int .i64 x.id, .int .i64 x.n, .slice ta tn tc] 121)) w3 := (Hb2.out.mono (by simp)).trans hb3
  have hB3 : Below w.heap.size w w3 := HB2.out.trans (hb3.mono (Nat.le_succ _))
  obtain ⟨x0, x1, x2, x3⟩ := cells4 (Nat.lt_succ_self _) hbx
  have HB3 := Hid.mk' hB3; have HS3 := Hid.mk' hS3
  clear hd hS3 hb3 hbx hB3 hsz2 hs3 HD HB2 Hb2
  subst he
  by_cases hc : r.2 = 0
  · have HX := Hid.mk' (encode_any x ta tn tc w3 (HT.out.stay HB3.out) hn)
    rw [hc]
    cases hf : Jn.fits x with
    | false =>
      have HR : Hid (∀ W, Below w.heap.size w W → StDid S w g (Sr.write s r x) (.returned (.int .i64 (1 : Nat))) W) := fun W hb => StDid.none_ ⟨gs, gl, ao, ca, P, HI.out⟩ hb (Sr.write_bad hc hf)
      unfold EncPost at HX
      rw [encOut_no hf] at HX
      clear hc hf HI
      go_wp2_with fail
      refine HX.out.mono ?_
      rintro e w4 ⟨ao4, ca4, rfl, _, hb4⟩
      have HB4 := Hid.mk' (then_ HB3.out hb4)
      clear hb4
      go_wp2
      go_ret
      exact HR.out _ HB4.out
    | true =>
      unfold EncPost at HX
      rw [encOut_yes hf] at HX
      have hlx : (Jn.enc x).length ≤ 1048600 := by have := Jn.enc_len hf; have := Jn.inn_len hf; omega
      by_cases hl : 100000 < s.log.length + (Jn.enc x).length
      · have HR : Hid (∀ W, Below w.heap.size w W → StDid S w g (Sr.write s r x) (.returned (.int .i64 (16 : Nat))) W) := fun W hb => StDid.none_ ⟨gs, gl, ao, ca, P, HI.out⟩ hb (Sr.write_full hc hf hl)
        have HL := Hid.mk' (show ¬ s.log.length + (Jn.enc x).length ≤ 100000 by omega)
        clear hc hf hl
        generalize Jn.enc x = y at *
        go_wp2_with fail
        refine HX.out.mono ?_
        rintro e w4 ⟨ao4, ca4, rfl, _, hb4⟩
        have hB4 := then_ HB3.out hb4
        have hI4 := HI.out.stay hB4
        obtain ⟨⟨c0, c1⟩, _⟩ := row2 hI4.row
        have HW := Hid.mk' (writeLog_no hI4.log ao4 ca4 y.length HL.out)
        have HB4 := Hid.mk' hB4
        clear hb4 hB4 hI4
        go_wp2_with fail
        refine HW.out.mono ?_
        rintro e w5 ⟨rfl, hw5⟩
        rw [hw5]; clear hw5
        go_wp2
        go_ret
        exact HR.out _ HB4.out
      · have HR : Hid (∀ W, StAt W (orNew S w) g ⟨r.1, s.log ++ Jn.enc x, s.sure⟩ → Turns S w W → StDid S w g (Sr.write s r x) (.returned (.int .i64 0)) W) := fun W h1 h2 => by
          rw [Sr.write_yes hc hf hl]; exact ⟨rfl, h1, h2⟩
        have HL := Hid.mk' (show s.log.length + (Jn.enc x).length ≤ 100000 by omega)
        clear hc hf hl
        generalize Jn.enc x = y at *
        go_wp2_with fail
        refine HX.out.mono ?_
        rintro e w4 ⟨ao4, ca4, rfl, hO4, hb4⟩
        have hB4 := then_ HB3.out hb4
        have hI4 := HI.out.stay hB4
        obtain ⟨⟨c0, c1⟩, _⟩ := row2 hI4.row
        have HW := Hid.mk' (writeLog_yes hI4.log ao4 ca4 y.length y hO4.isB rfl HL.out)
        have HS4 := Hid.mk' (((HS3.out.stay hb4).mono (S' := fun k => w.heap.size ≤ k) (fun k _ e => Nat.le_of_succ_le e)))
        have HB4 := Hid.mk' hB4
        clear hb4 hB4 hI4 hO4
        go_wp2_with fail
        refine HW.out.mono ?_
        rintro e w5 ⟨ao5, ca5, rfl, hL5, ht5, hat5⟩
        obtain ⟨hr5, hA, hTu⟩ := HI.out.laid HB4.out HS4.out hL5 ht5 hat5
        obtain ⟨⟨y0, y1⟩, z0, z1⟩ := row2 hr5
        have HA := Hid.mk' hA; have HTu := Hid.mk' hTu
        clear hL5 ht5 hat5 hr5 hA hTu c0 c1
        go_wp2
        go_ret
        exact HR.out _ HA.out HTu.out
  · have HR : Hid (StDid S w g (Sr.write s r x) (.returned (.int .i64 (r.2 : Int))) w3) := StDid.none_ ⟨gs, gl, ao, ca, P, HI.out⟩ HB3.out (Sr.write_code hc)
    have hc' : ¬ (r.2 : Int) = 0 := by omega
    clear hc
    generalize (r.2 : Int) = rc at *
    go_wp2
    go_ret
    exact HR.out
end Go.Proofs.YtdclmpdjjkjfjaaGreatDoor

/- Package store, walked: New, Sync, Log. -/
namespace Go.Proofs.YtdclmpdjjkjfjaaGreatDoor
open Go.RowKit

theorem newSt_any (w : World) :
    Calls Tryz.prog 8 #[] w fun e w' => ∃ g, e = .returned (.pointer (some ⟨g, 0, none⟩)) ∧ StAt w' (fun k => w.heap.size ≤ k) g Sr.new ∧ Below w.heap.size w w' := by
  have H0 := Hid.mk' (newU_any w)
  have H1 := Hid.mk' (fun W => newLog_any W)
  go_enter Tryz.func8, Tryz.ntmps8
  go_wp2_with fail
  refine H0.out.mono ?_
  rintro e w1 ⟨rfl, hS, hb⟩
  have hs := hS.lt
  have HS := Hid.mk' hS; have HB := Hid.mk' hb
  clear hS hb
  go_wp2_with fail
  refine (H1.out w1).mono ?_
  rintro e w2 ⟨rfl, hL, hb2⟩
  have hs2 := hL.lt
  have hz := hb2.size
  have hsz := HB.out.size
  have HB2 := Hid.mk' (then_ HB.out hb2)
  have HX : Hid (StAt (w2.alloc (.cells #[.pointer (some ⟨w.heap.size, 0, none⟩), .pointer (some ⟨w1.heap.size, 0, none⟩)] 48)) (fun k => w.heap.size ≤ k) w2.heap.size Sr.new ∧ Below w.heap.size w (w2.alloc (.cells #[.pointer (some ⟨w.heap.size, 0, none⟩), .pointer (some ⟨w1.heap.size, 0, none⟩)] 48))) := by
    have hbA := (Below.refl _ w2).alloc (Nat.le_refl _) (.cells #[.pointer (some ⟨w.heap.size, 0, none⟩), .pointer (some ⟨w1.heap.size, 0, none⟩)] 48)
    have hl0 : LogAt w2 0 w1.heap.size [] 0 none 0 := ⟨hL.row, OwnB.nil _ _ _, Nat.zero_le _, hL.le, hL.few⟩
    refine ⟨⟨w.heap.size, w1.heap.size, none, 0, fun k => w.heap.size ≤ k ∧ k < w1.heap.size, heap_alloc_new w2 _, ((HS.out.mono (S' := fun k => w.heap.size ≤ k ∧ k < w1.heap.size) (fun k hk e => ⟨e, hk⟩)).stay hb2).stay hbA, hl0.stay hbA, HB2.out.size, fun k e => ⟨e.1, by omega, fun e2 => ?_⟩, fun k e => ?_⟩, then_ HB2.out hbA⟩
    · rcases e2 with e2 | e2
      · omega
      · cases e2
    · rcases e with e | e
      · exact ⟨by show w.heap.size ≤ k; omega, by omega⟩
      · cases e
  clear hL hb2 hz hsz HB HB2 HS
  go_wp2
  go_ret
  exact ⟨_, rfl, HX.out.1, HX.out.2⟩
section
variable {s : Sr.Sh} {S : Nat → Prop} {g : Nat} {w : World}
theorem StIn.turned {w' : World} {gs gl : Nat} {ao : Option Addr} {ca : Nat} {P : Nat → Prop} {log' : List UInt8} {sure' : Nat} (h : StIn w S g gs gl ao ca P s) (hL : LogAt w' 0 gl log' sure' ao ca) (ht : Turns (fun k => k = gl) w w') : StIn w' S g gs gl ao ca P ⟨s.h, log', sure'⟩ ∧ Turns S w w' :=
  ⟨⟨ht.row h.row (fun e => (h.inL gl (Or.inl rfl)).2 e.symm), h.spool.turns ht (fun k e e2 => (h.inP k e).2.2 (Or.inl e2)), hL, h.self, h.inP, h.inL⟩, ht.mono (fun k e => by subst e; exact (h.inL _ (Or.inl rfl)).1)⟩
theorem syncSt_any (h : StAt w S g s) :
    Calls Tryz.prog 76 #[.pointer (some ⟨g, 0, none⟩)] w fun e w' => e = .returned (.tuple #[]) ∧ StAt w' S g (Sr.sync s) ∧ Turns S w w' := by
  obtain ⟨gs, gl, ao, ca, P, hI⟩ := h
  obtain ⟨⟨c0, c1⟩, _⟩ := row2 hI.row
  have HR := Hid.mk' (syncLog_any hI.log)
  have HI := Hid.mk' hI
  clear hI
  go_enter Tryz.func76, Tryz.ntmps76
  go_wp2_with fail
  refine HR.out.mono ?_
  rintro e w1 ⟨rfl, hL, ht⟩
  obtain ⟨h1, h2⟩ := HI.out.turned hL ht
  have HX : Hid (StAt w1 S g (Sr.sync s) ∧ Turns S w w1) := ⟨⟨gs, gl, ao, ca, P, h1⟩, h2⟩
  clear hL ht h1 h2
  go_wp2
  go_end0
  exact ⟨rfl, HX.out.1, HX.out.2⟩
set_option maxHeartbeats 800000 in
theorem logSt_any (h : StAt w S g s) :
    Calls Tryz.prog 12 #[.pointer (some ⟨g, 0, none⟩)] w fun e w' => ∃ ao' ca', e = .returned (.tuple #[.slice ao' s.log.length ca', .int .i64 (s.sure : Int)]) ∧ IsB w' ao' ca' s.log ∧ Below w.heap.size w w' := by
  have hlt := h.lt
  obtain ⟨gs, gl, ao, ca, P, hI⟩ := h
  obtain ⟨⟨c0, c1⟩, _⟩ := row2 hI.row
  have HB := Hid.mk' (bytesLog_any (hI.log.stay (below_drew w.heap.size w)))
  have HS : Hid (∀ W, Below w.heap.size w W → Calls Tryz.prog 38 #[.pointer (some ⟨gl, 0, none⟩)] W fun e w' => e = .returned (.int .i64 (s.sure : Int)) ∧ w' = W) := fun W hW => sureLog_any (hI.log.stay hW)
  have HC : Hid (∀ W, Below w.heap.size w W → W.cell? ⟨g, 1, none⟩ = some (.pointer (some ⟨gl, 0, none⟩))) := fun W hW => (hW.cell (p := ⟨g, 1, none⟩) hlt).trans c1
  have HB0 := Hid.mk' (below_drew w.heap.size w)
  clear hI c0
  generalize s.log.length = n at *
  go_enter Tryz.func12, Tryz.ntmps12
  go_wp2_with fail
  go_region_held3 (fun w' => w'.cell? ⟨g, 1, none⟩ = some (.pointer (some ⟨gl, 0, none⟩))) (go_keep) (first | (go_at_call 37; refine HB.out.mono ?_; rintro e w1 ⟨ao', ca', rfl, hb1, hb2⟩; have hb3 := HB0.out.trans hb2; have c1' := HC.out w1 hb3; have HX1 := Hid.mk' hb1; have HX2 := Hid.mk' hb3; clear hb1 hb2 hb3) | (go_at_call 38; refine (HS.out _ (by first | with_reducible exact HB0.out | with_reducible exact HX2.out)).mono ?_; rintro e w1 ⟨rfl, hw⟩; rw [hw]; clear hw))
  all_goals
    go_wp2
    go_ret2
    exact ⟨_, _, rfl, HX1.out, HX2.out⟩
end
end Go.Proofs.YtdclmpdjjkjfjaaGreatDoor

/- Package store, walked: End, Begin, Drop, Declare, Append. -/
namespace Go.Proofs.YtdclmpdjjkjfjaaGreatDoor
open Go.RowKit

section
variable {s : Sr.Sh} {S : Nat → Prop} {g : Nat} {w : World}
set_option maxHeartbeats 800000 in
theorem dropSt_any (h : StAt w S g s) (ok : Sr.Ok s) (id : Int) :
    Calls Tryz.prog 87 #[.pointer (some ⟨g, 0, none⟩), .int .i64 id] w (StDid S w g (Sr.drop s id)) := by
  have hB : Below w.heap.size w ((w.alloc (.cells #[.int .i64 id] 3)).alloc (.cells #[.int .i64 4, .int .i64 id, .int .i64 0, .slice none 0 0] 121)) := ((Below.refl _ _).alloc (by simp; try omega) _).alloc (by simp; try omega) _
  have hc1 : ∀ W, Below ((w.alloc (.cells #[.int .i64 id] 3)).alloc (.cells #[.int .i64 4, .int .i64 id, .int .i64 0, .slice none 0 0] 121)).heap.size ((w.alloc (.cells #[.int .i64 id] 3)).alloc (.cells #[.int .i64 4, .int .i64 id, .int .i64 0, .slice none 0 0] 121)) W → W.cell? ⟨w.heap.size, 0, none⟩ = some (.int .i64 id) := fun W hW => by rw [hW.cell (p := ⟨w.heap.size, 0, none⟩) (by simp; try omega)]; exact cell_old _ _ _ _ (cell_new _ _ _ _ (by simp; try omega))
  have HC := Hid.mk' (step_drp s S g w.heap.size ⟨4, id, 0, []⟩ none 0 0 (Sp.drop s.h id) _ (h.stay hB) ok (IsB.nil _) rfl (fun W g' hW _ hS => close_drp s.h _ g' w.heap.size id W hS ok.h (hc1 W hW)))
  have HB := Hid.mk' hB
  have hmf : ∀ (fn : Fn) (first cap : Array Value) (w : World), (Instr.makeFunc fn first cap).run Tryz.prog w = .ok (.func fn first cap) w := fun _ _ _ _ => rfl
  unfold Sr.drop
  generalize Sr.write s _ _ = r at *
  clear h ok hB hc1
  go_enter Tryz.func87, Tryz.ntmps87
  go_wp2_with fail
  refine HC.out.mono ?_
  intro e w2 hd
  have HD := Hid.mk' (StDid.from_ HB.out hd)
  obtain ⟨rfl, _, _⟩ := hd
  go_wp2
  go_ret
  exact HD.out
set_option maxHeartbeats 800000 in
theorem declareSt_any (h : StAt w S g s) (ok : Sr.Ok s) (id : Int) (sz : Int) :
    Calls Tryz.prog 86 #[.pointer (some ⟨g, 0, none⟩), .int .i64 id, .int .i64 sz] w (StDid S w g (Sr.declare s id sz)) := by
  have hB : Below w.heap.size w (((w.alloc (.cells #[.int .i64 id] 3)).alloc (.cells #[.int .i64 sz] 3)).alloc (.cells #[.int .i64 3, .int .i64 id, .int .i64 sz, .slice none 0 0] 121)) := (((Below.refl _ _).alloc (by simp; try omega) _).alloc (by simp; try omega) _).alloc (by simp; try omega) _
  have hc1 : ∀ W, Below (((w.alloc (.cells #[.int .i64 id] 3)).alloc (.cells #[.int .i64 sz] 3)).alloc (.cells #[.int .i64 3, .int .i64 id, .int .i64 sz, .slice none 0 0] 121)).heap.size (((w.alloc (.cells #[.int .i64 id] 3)).alloc (.cells #[.int .i64 sz] 3)).alloc (.cells #[.int .i64 3, .int .i64 id, .int .i64 sz, .slice none 0 0] 121)) W → W.cell? ⟨w.heap.size, 0, none⟩ = some (.int .i64 id) := fun W hW => by rw [hW.cell (p := ⟨w.heap.size, 0, none⟩) (by simp; try omega)]; exact cell_old _ _ _ _ (cell_old _ _ _ _ (cell_new _ _ _ _ (by simp; try omega)))
  have hc2 : ∀ W, Below (((w.alloc (.cells #[.int .i64 id] 3)).alloc (.cells #[.int .i64 sz] 3)).alloc (.cells #[.int .i64 3, .int .i64 id, .int .i64 sz, .slice none 0 0] 121)).heap.size (((w.alloc (.cells #[.int .i64 id] 3)).alloc (.cells #[.int .i64 sz] 3)).alloc (.cells #[.int .i64 3, .int .i64 id, .int .i64 sz, .slice none 0 0] 121)) W → W.cell? ⟨w.heap.size + 1, 0, none⟩ = some (.int .i64 sz) := fun W hW => by rw [hW.cell (p := ⟨w.heap.size + 1, 0, none⟩) (by simp; try omega)]; exact cell_old _ _ _ _ (cell_new _ _ _ _ (by simp; try omega))
  have HC := Hid.mk' (step_dec s S g w.heap.size (w.heap.size + 1) ⟨3, id, sz, []⟩ none 0 0 (Sp.declare s.h id sz) _ (h.stay hB) ok (IsB.nil _) rfl (fun W g' hW _ hS => close_dec s.h _ g' w.heap.size (w.heap.size + 1) id sz W hS ok.h (hc1 W hW) (hc2 W hW)))
  have HB := Hid.mk' hB
  have hmf : ∀ (fn : Fn) (first cap : Array Value) (w : World), (Instr.makeFunc fn first cap).run Tryz.prog w = .ok (.func fn first cap) w := fun _ _ _ _ => rfl
  unfold Sr.declare
  generalize Sr.write s _ _ = r at *
  clear h ok hB hc1 hc2
  go_enter Tryz.func86, Tryz.ntmps86
  go_wp2_with fail
  refine HC.out.mono ?_
  intro e w2 hd
  have HD := Hid.mk' (StDid.from_ HB.out hd)
  obtain ⟨rfl, _, _⟩ := hd
  go_wp2
  go_ret
  exact HD.out
set_option maxHeartbeats 800000 in
theorem appendSt_any (h : StAt w S g s) (ok : Sr.Ok s) (id : Int) (off : Int) (bo : Option Addr) (bn bc : Nat) (l : List UInt8) (hb : IsB w bo bc l) (hn : l.length = bn) (hN : bn ≤ 1000000) :
    Calls Tryz.prog 85 #[.pointer (some ⟨g, 0, none⟩), .int .i64 id, .int .i64 off, .slice bo bn bc] w (StDid S w g (Sr.append s id off l)) := by
  have hB : Below w.heap.size w ((((w.alloc (.cells #[.int .i64 id] 3)).alloc (.cells #[.int .i64 off] 3)).alloc (.cells #[.slice bo bn bc] 30)).alloc (.cells #[.int .i64 2, .int .i64 id, .int .i64 0, .slice bo bn bc] 121)) := ((((Below.refl _ _).alloc (by simp; try omega) _).alloc (by simp; try omega) _).alloc (by simp; try omega) _).alloc (by simp; try omega) _
  have hc1 : ∀ W, Below ((((w.alloc (.cells #[.int .i64 id] 3)).alloc (.cells #[.int .i64 off] 3)).alloc (.cells #[.slice bo bn bc] 30)).alloc (.cells #[.int .i64 2, .int .i64 id, .int .i64 0, .slice bo bn bc] 121)).heap.size ((((w.alloc (.cells #[.int .i64 id] 3)).alloc (.cells #[.int .i64 off] 3)).alloc (.cells #[.slice bo bn bc] 30)).alloc (.cells #[.int .i64 2, .int .i64 id, .int .i64 0, .slice bo bn bc] 121)) W → W.cell? ⟨w.heap.size, 0, none⟩ = some (.int .i64 id) := fun W hW => by rw [hW.cell (p := ⟨w.heap.size, 0, none⟩) (by simp; try omega)]; exact cell_old _ _ _ _ (cell_old _ _ _ _ (cell_old _ _ _ _ (cell_new _ _ _ _ (by simp; try omega))))
  have hc2 : ∀ W, Below ((((w.alloc (.cells #[.int .i64 id] 3)).alloc (.cells #[.int .i64 off] 3)).alloc (.cells #[.slice bo bn bc] 30)).alloc (.cells #[.int .i64 2, .int .i64 id, .int .i64 0, .slice bo bn bc] 121)).heap.size ((((w.alloc (.cells #[.int .i64 id] 3)).alloc (.cells #[.int .i64 off] 3)).alloc (.cells #[.slice bo bn bc] 30)).alloc (.cells #[.int .i64 2, .int .i64 id, .int .i64 0, .slice bo bn bc] 121)) W → W.cell? ⟨w.heap.size + 1, 0, none⟩ = some (.int .i64 off) := fun W hW => by rw [hW.cell (p := ⟨w.heap.size + 1, 0, none⟩) (by simp; try omega)]; exact cell_old _ _ _ _ (cell_old _ _ _ _ (cell_new _ _ _ _ (by simp; try omega)))
  have hc3 : ∀ W, Below ((((w.alloc (.cells #[.int .i64 id] 3)).alloc (.cells #[.int .i64 off] 3)).alloc (.cells #[.slice bo bn bc] 30)).alloc (.cells #[.int .i64 2, .int .i64 id, .int .i64 0, .slice bo bn bc] 121)).heap.size ((((w.alloc (.cells #[.int .i64 id] 3)).alloc (.cells #[.int .i64 off] 3)).alloc (.cells #[.slice bo bn bc] 30)).alloc (.cells #[.int .i64 2, .int .i64 id, .int .i64 0, .slice bo bn bc] 121)) W → W.cell? ⟨w.heap.size + 2, 0, none⟩ = some (.slice bo bn bc) := fun W hW => by rw [hW.cell (p := ⟨w.heap.size + 2, 0, none⟩) (by simp; try omega)]; exact cell_old _ _ _ _ (cell_new _ _ _ _ (by simp; try omega))
  have HC := Hid.mk' (step_app s S g w.heap.size (w.heap.size + 1) (w.heap.size + 2) ⟨2, id, 0, l⟩ bo bn bc (Sp.append s.h id off l) _ (h.stay hB) ok (hb.stay hB) hn (fun W g' hW _ hS => close_app s.h _ g' w.heap.size (w.heap.size + 1) (w.heap.size + 2) id off bo bn bc l W hS ok.h (hc1 W hW) (hc2 W hW) (hc3 W hW) ((hb.stay hB).stay hW) hn hN))
  have HB := Hid.mk' hB
  have hmf : ∀ (fn : Fn) (first cap : Array Value) (w : World), (Instr.makeFunc fn first cap).run Tryz.prog w = .ok (.func fn first cap) w := fun _ _ _ _ => rfl
  unfold Sr.append
  generalize Sr.write s _ _ = r at *
  clear h ok hB hc1 hc2 hc3 hb hn
  go_enter Tryz.func85, Tryz.ntmps85
  go_wp2_with fail
  refine HC.out.mono ?_
  intro e w2 hd
  have HD := Hid.mk' (StDid.from_ HB.out hd)
  obtain ⟨rfl, _, _⟩ := hd
  go_wp2
  go_ret
  exact HD.out
end
end Go.Proofs.YtdclmpdjjkjfjaaGreatDoor

/- Package store, walked: Create. -/
namespace Go.Proofs.YtdclmpdjjkjfjaaGreatDoor
open Go.RowKit

/-- what Create answered, and what became of the object -/
structure StMade (S : Nat → Prop) (w : World) (g : Nat) (s : Sr.Sh) (r : Sr.Sh × Nat) (e : Ending) (w' : World) : Prop where
  ret : e = .returned (.tuple #[.int .i64 (Sr.numb s r.2), .int .i64 (r.2 : Int)])
  at_ : StAt w' (orNew S w) g r.1
  turns : Turns S w w'
section
variable {s : Sr.Sh} {S : Nat → Prop} {g : Nat} {w : World}
set_option maxRecDepth 100000 in
set_option maxHeartbeats 1600000 in
theorem createSt_any (h : StAt w S g s) (ok : Sr.Ok s) (sz : Int) (m : ByteArray) (hm : m.size ≤ 1000000) :
    Calls Tryz.prog 74 #[.pointer (some ⟨g, 0, none⟩), .int .i64 sz, .string m] w (StMade S w g s (Sr.create s sz m)) := by
  have hB2 : Below w.heap.size w ((w.alloc (.cells #[.int .i64 sz] 3)).alloc (.cells #[.string m] 9)) := ((Below.refl _ _).alloc (Nat.le_refl _) _).alloc (by simp) _
  have e1 : ((w.alloc (.cells #[.int .i64 sz] 3)).alloc (.cells #[.string m] 9)).cell? ⟨w.heap.size, 0, none⟩ = some (.int .i64 sz) := cell_old _ _ _ _ (cell_new _ _ _ _ rfl)
  have e2 : ((w.alloc (.cells #[.int .i64 sz] 3)).alloc (.cells #[.string m] 9)).cell? ⟨w.heap.size + 1, 0, none⟩ = some (.string m) := cell_new _ _ _ _ (by simp)
  have hs2 : ((w.alloc (.cells #[.int .i64 sz] 3)).alloc (.cells #[.string m] 9)).heap.size = w.heap.size + 2 := by simp
  obtain ⟨W2, hW2⟩ : ∃ W, ((w.alloc (.cells #[.int .i64 sz] 3)).alloc (.cells #[.string m] 9)) = W := ⟨_, rfl⟩
  rw [hW2] at hB2 e1 e2 hs2
  have h2 := h.stay hB2
  obtain ⟨gs, gl, ao, ca, P, hI⟩ := h2
  obtain ⟨⟨c0, c1⟩, _⟩ := row2 hI.row
  have hl := ok.last_
  have HN := Hid.mk' (nextU_any s.h P gs W2 hI.spool ok.h.last0 (by omega))
  obtain ⟨bc, W3, hcv, hb3, hs3, hIB⟩ := bytes_of (P := Tryz.prog) W2 m 9 30 5 Tryz.underlying9 Tryz.underlying30 Tryz.underlying5
  have hB3 := then_ hB2 hb3
  have hbA := (Below.refl _ W3).alloc (Nat.le_refl _) (.cells #[.int .i64 1, .int .i64 (s.h.last + 1), .int .i64 sz, .slice (some ⟨W2.heap.size, 0, none⟩) m.size bc] 121)
  have hB4 := then_ hB3 hbA
  have hc1 : ∀ W, Below (W3.alloc (.cells #[.int .i64 1, .int .i64 (s.h.last + 1), .int .i64 sz, .slice (some ⟨W2.heap.size, 0, none⟩) m.size bc] 121)).heap.size (W3.alloc (.cells #[.int .i64 1, .int .i64 (s.h.last + 1), .int .i64 sz, .slice (some ⟨W2.heap.size, 0, none⟩) m.size bc] 121)) W → W.cell? ⟨w.heap.size, 0, none⟩ = some (.int .i64 sz) ∧ W.cell? ⟨w.heap.size + 1, 0, none⟩ = some (.string m) := fun W hW => by
    have hb5 : Below W2.heap.size W2 W := then_ hb3 (then_ hbA hW)
    exact ⟨(hb5.cell (p := ⟨w.heap.size, 0, none⟩) (show w.heap.size < W2.heap.size by omega)).trans e1, (hb5.cell (p := ⟨w.heap.size + 1, 0, none⟩) (show w.heap.size + 1 < W2.heap.size by omega)).trans e2⟩
  have HC := Hid.mk' (step_cre s S g w.heap.size (w.heap.size + 1) ⟨1, s.h.last + 1, sz, m.data.toList⟩ (some ⟨W2.heap.size, 0, none⟩) m.size bc (Sr.made s.h sz m) _ (h.stay hB4) ok (hIB.stay hbA) (by simp) (fun W g' hW _ hS => close_cre s.h _ g' w.heap.size (w.heap.size + 1) sz m W hS ok.h (hc1 W hW).1 (hc1 W hW).2 (by omega) hm))
  have HB := Hid.mk' hB4
  have hmf : ∀ (fn : Fn) (first cap : Array Value) (w : World), (Instr.makeFunc fn first cap).run Tryz.prog w = .ok (.func fn first cap) w := fun _ _ _ _ => rfl
  have d1 : W3.cell? ⟨w.heap.size, 0, none⟩ = some (.int .i64 sz) := (hb3.cell (p := ⟨w.heap.size, 0, none⟩) (show w.heap.size < W2.heap.size by omega)).trans e1
  unfold Sr.create
  generalize Sr.write s _ _ = r at *
  have HNu : Hid (∀ c : Nat, c = 0 → Sr.numb s c = s.h.last + 1) := fun c hc => by unfold Sr.numb; rw [if_pos hc]
  have HN0 : Hid (∀ c : Nat, c ≠ 0 → Sr.numb s c = 0) := fun c hc => by unfold Sr.numb; rw [if_neg hc]
  have HS3 := Hid.mk' hs3
  clear h ok hB2 hB3 hB4 hbA hc1 hI hs2 hs3 hIB hb3 c1 hm
  generalize hla : s.h.last = la at *
  clear hla
  go_enter Tryz.func74, Tryz.ntmps74
  go_wp2_with fail
  clear hW2
  refine HN.out.mono ?_
  rintro e w1 ⟨rfl, hw⟩
  rw [hw]; clear hw
  go_wp2_with fail
  refine HC.out.mono ?_
  intro e w2 hd
  have hD := StDid.from_ HB.out hd
  have HD := Hid.mk' hD
  clear hD
  obtain ⟨rfl, _, _⟩ := hd
  by_cases hc : r.2 = 0
  · rw [hc]
    go_wp2
    go_ret2
    exact ⟨by rw [HNu.out _ hc, hc]; rfl, HD.out.at_, HD.out.turns⟩
  · have hc' : ¬ (r.2 : Int) = 0 := by omega
    have HX : Hid (∀ v, v = (r.2 : Int) → StMade S w g s r (.returned (.tuple #[.int .i64 0, .int .i64 v])) w2) := fun v hv => ⟨by rw [HN0.out _ hc, hv], HD.out.at_, HD.out.turns⟩
    clear hc HD
    generalize (r.2 : Int) = rc at *
    go_wp2
    go_ret2
    exact HX.out _ rfl
end
end Go.Proofs.YtdclmpdjjkjfjaaGreatDoor
