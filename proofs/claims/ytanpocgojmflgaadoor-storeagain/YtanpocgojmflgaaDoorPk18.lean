/- Small texts, one behind the other: StB, SpN. -/
import Derived.Test.YtanpocgojmflgaaDoorPk7
import Derived.Test.YtanpocgojmflgaaDoorSqH
/- Package store, walked: the closures that are handed to step. -/
namespace Go.Proofs.YtanpocgojmflgaaDoor
open Go.RowKit

set_option maxHeartbeats 800000 in
theorem close_end (s : Sp.St) (S : Nat → Prop) (g b1 : Nat) (id : Int) (w : World) (h : SpoolAt w S g s) (ok : Sp.Ok s) (d1 : w.cell? ⟨b1, 0, none⟩ = some (.int .i64 id)) :
    Calls Tryd.prog 49 #[.pointer (some ⟨g, 0, none⟩), .pointer (some ⟨b1, 0, none⟩)] w (Did S 63 w g (Sp.ends s id)) := by
  have HC := Hid.mk' (endU_any s S g id w h ok)
  generalize Sp.ends s id = r at *
  clear ok h
  go_enter Tryd.func49, Tryd.ntmps49
  go_wp2_with fail
  refine HC.out.mono ?_
  intro e w2 hd
  have HD := Hid.mk' hd
  obtain ⟨rfl, _, _⟩ := hd
  go_wp2
  go_ret
  exact HD.out
set_option maxHeartbeats 800000 in
theorem close_beg (s : Sp.St) (S : Nat → Prop) (g b1 : Nat) (id : Int) (w : World) (h : SpoolAt w S g s) (ok : Sp.Ok s) (d1 : w.cell? ⟨b1, 0, none⟩ = some (.int .i64 id)) :
    Calls Tryd.prog 47 #[.pointer (some ⟨g, 0, none⟩), .pointer (some ⟨b1, 0, none⟩)] w (Did S 63 w g (Sp.begins s id)) := by
  have HC := Hid.mk' (beginU_any s S g id w h ok)
  generalize Sp.begins s id = r at *
  clear ok h
  go_enter Tryd.func47, Tryd.ntmps47
  go_wp2_with fail
  refine HC.out.mono ?_
  intro e w2 hd
  have HD := Hid.mk' hd
  obtain ⟨rfl, _, _⟩ := hd
  go_wp2
  go_ret
  exact HD.out
set_option maxHeartbeats 800000 in
theorem close_drp (s : Sp.St) (S : Nat → Prop) (g b1 : Nat) (id : Int) (w : World) (h : SpoolAt w S g s) (ok : Sp.Ok s) (d1 : w.cell? ⟨b1, 0, none⟩ = some (.int .i64 id)) :
    Calls Tryd.prog 45 #[.pointer (some ⟨g, 0, none⟩), .pointer (some ⟨b1, 0, none⟩)] w (Did S 63 w g (Sp.drop s id)) := by
  have HC := Hid.mk' (dropU_any s S g id w h ok)
  generalize Sp.drop s id = r at *
  clear ok h
  go_enter Tryd.func45, Tryd.ntmps45
  go_wp2_with fail
  refine HC.out.mono ?_
  intro e w2 hd
  have HD := Hid.mk' hd
  obtain ⟨rfl, _, _⟩ := hd
  go_wp2
  go_ret
  exact HD.out
set_option maxHeartbeats 800000 in
theorem close_dec (s : Sp.St) (S : Nat → Prop) (g b1 b2 : Nat) (id : Int) (sz : Int) (w : World) (h : SpoolAt w S g s) (ok : Sp.Ok s) (d1 : w.cell? ⟨b1, 0, none⟩ = some (.int .i64 id)) (d2 : w.cell? ⟨b2, 0, none⟩ = some (.int .i64 sz)) :
    Calls Tryd.prog 43 #[.pointer (some ⟨g, 0, none⟩), .pointer (some ⟨b1, 0, none⟩), .pointer (some ⟨b2, 0, none⟩)] w (Did S 63 w g (Sp.declare s id sz)) := by
  have HC := Hid.mk' (declareU_any s S g id sz w h ok)
  generalize Sp.declare s id sz = r at *
  clear ok h
  go_enter Tryd.func43, Tryd.ntmps43
  go_wp2_with fail
  refine HC.out.mono ?_
  intro e w2 hd
  have HD := Hid.mk' hd
  obtain ⟨rfl, _, _⟩ := hd
  go_wp2
  go_ret
  exact HD.out
set_option maxHeartbeats 800000 in
theorem close_app (s : Sp.St) (S : Nat → Prop) (g b1 b2 b3 : Nat) (id : Int) (off : Int) (bo : Option Addr) (bn bc : Nat) (l : List UInt8) (w : World) (h : SpoolAt w S g s) (ok : Sp.Ok s) (d1 : w.cell? ⟨b1, 0, none⟩ = some (.int .i64 id)) (d2 : w.cell? ⟨b2, 0, none⟩ = some (.int .i64 off)) (d3 : w.cell? ⟨b3, 0, none⟩ = some (.slice bo bn bc)) (hb : IsB w bo bc l) (hn : l.length = bn) (hN : bn ≤ 1000000) :
    Calls Tryd.prog 41 #[.pointer (some ⟨g, 0, none⟩), .pointer (some ⟨b1, 0, none⟩), .pointer (some ⟨b2, 0, none⟩), .pointer (some ⟨b3, 0, none⟩)] w (Did S 63 w g (Sp.append s id off l)) := by
  have HC := Hid.mk' (appendU_any s S g id off bo bn bc l w h ok hb hn hN)
  generalize Sp.append s id off l = r at *
  clear hN hn hb ok h
  go_enter Tryd.func41, Tryd.ntmps41
  go_wp2_with fail
  refine HC.out.mono ?_
  intro e w2 hd
  have HD := Hid.mk' hd
  obtain ⟨rfl, _, _⟩ := hd
  go_wp2
  go_ret
  exact HD.out
set_option maxHeartbeats 800000 in
theorem close_cre (s : Sp.St) (S : Nat → Prop) (g b1 b2 : Nat) (sz : Int) (m : ByteArray) (w : World) (h : SpoolAt w S g s) (ok : Sp.Ok s) (d1 : w.cell? ⟨b1, 0, none⟩ = some (.int .i64 sz)) (d2 : w.cell? ⟨b2, 0, none⟩ = some (.string m)) (hl : s.last ≤ 1000000) (hm : m.size ≤ 1000000) :
    Calls Tryd.prog 39 #[.pointer (some ⟨g, 0, none⟩), .pointer (some ⟨b1, 0, none⟩), .pointer (some ⟨b2, 0, none⟩)] w (Did S 63 w g (Sr.made s sz m)) := by
  have HC := Hid.mk' (createU_any s S g sz m w h ok hl hm)
  have HP : Hid (Sr.made s sz m = ((Sp.create s sz m).1, (Sp.create s sz m).2.2)) := rfl
  generalize Sp.create s sz m = q at *
  obtain ⟨q1, q2, q3⟩ := q
  generalize Sr.made s sz m = r at *
  clear hm hl ok h
  go_enter Tryd.func39, Tryd.ntmps39
  go_wp2_with fail
  refine HC.out.mono ?_
  intro e w2 hd
  have HD : Hid (Did S 63 w g r (.returned (.int .i64 (q3 : Int))) w2) := by
    rw [HP.out]; exact ⟨rfl, hd.at_, hd.turns⟩
  obtain ⟨rfl, _, _⟩ := hd
  go_wp2
  go_ret
  exact HD.out
end Go.Proofs.YtanpocgojmflgaaDoor

/- A spool all of whose memory is new; two short texts as bytes. -/
namespace Go.Proofs.YtanpocgojmflgaaDoor
open Go.RowKit

/-- a spool all of whose memory is new -/
abbrev SpNew (B : Nat) (w : World) (g : Nat) (s : Sp.St) : Prop := SpoolAt w (fun k => B ≤ k) g s
theorem Did.new_ {B : Nat} {w w' : World} {g : Nat} {r : Sp.St × Nat} {e : Ending} (h : Did (fun k => B ≤ k) 63 w g r e w') (hB : B ≤ w.heap.size) : e = .returned (.int .i64 (r.2 : Int)) ∧ SpNew B w' g r.1 ∧ Below B w w' := by
  refine ⟨h.ret, h.at_.mono (fun k _ e => ?_), h.turns.below (fun k e => e) hB⟩
  rcases e with e | e
  · exact e
  · omega
theorem Made.new_ {B : Nat} {w w' : World} {g : Nat} {r : Sp.St × Int × Nat} {e : Ending} (h : Made (fun k => B ≤ k) 63 w g r e w') (hB : B ≤ w.heap.size) : e = .returned (.tuple #[.int .i64 r.2.1, .int .i64 (r.2.2 : Int)]) ∧ SpNew B w' g r.1 ∧ Below B w w' := by
  refine ⟨h.ret, h.at_.mono (fun k _ e => ?_), h.turns.below (fun k e => e) hB⟩
  rcases e with e | e
  · exact e
  · omega
theorem isB_ab (W : World) : IsB (W.alloc (.cells #[.int .u8 97, .int .u8 98] 5 (2, 3))) (some ⟨W.heap.size, 0, none⟩) 2 [97, 98] := by
  refine ⟨Nat.le_refl _, fun e => by simp at e, fun j hj => ⟨_, rfl, ?_⟩⟩
  rw [Addr.add_lit, World.cell?_alloc_mark, Nat.zero_add]
  match j, hj with
  | 0, _ => rfl
  | 1, _ => rfl
theorem isB_c (W : World) : IsB (W.alloc (.cells #[.int .u8 99] 5 (1, 2))) (some ⟨W.heap.size, 0, none⟩) 1 [99] := by
  refine ⟨Nat.le_refl _, fun e => by simp at e, fun j hj => ⟨_, rfl, ?_⟩⟩
  rw [Addr.add_lit, World.cell?_alloc_mark, Nat.zero_add]
  match j, hj with
  | 0, _ => rfl
end Go.Proofs.YtanpocgojmflgaaDoor
