/- Small texts, one behind the other: SqL, SqDuo. -/
import Derived.Test.YtankilclhknbkaaDoorSqK
import Derived.Lib.SlBytesConst
import Derived.Test.YtankilclhknbkaaDoorRfHE
import Derived.Test.YtankilclhknbkaaDoorRfHS
import Derived.Deep.DeepCutAuto
/- The statements' own: spoolBegun, walked. -/
namespace Go.Proofs.YtankilclhknbkaaDoor
open Go.RowKit

def sb1 : Sp.St := ⟨[⟨1, 3, ⟨#[109]⟩, [], 0⟩], 1⟩
def sb2 : Sp.St := ⟨[⟨1, 3, ⟨#[109]⟩, [97, 98], 0⟩], 1⟩
def sb3 : Sp.St := ⟨[⟨1, 3, ⟨#[109]⟩, [97, 98, 99], 0⟩], 1⟩
def sb4 : Sp.St := ⟨[⟨1, 3, ⟨#[109]⟩, [97, 98, 99], 1⟩], 1⟩
def sb5 : Sp.St := ⟨[⟨1, 3, ⟨#[109]⟩, [97, 98, 99], 2⟩], 1⟩
theorem sb_1 : Sp.create Sp.new 3 ⟨#[109]⟩ = (sb1, 1, 0) := by
  unfold Sp.create
  rw [if_neg (by decide), if_neg (by decide), if_neg, if_neg (by decide)]
  · rfl
  · decide
theorem sb_2 : Sp.append sb1 1 0 [97, 98] = (sb2, 0) := by rfl
theorem sb_3 : Sp.begins sb2 1 = (sb2, 14) := by rfl
theorem sb_4 : Sp.append sb2 1 2 [99] = (sb3, 0) := by rfl
theorem sb_5 : Sp.begins sb3 1 = (sb4, 0) := by rfl
theorem sb_6 : Sp.ends sb4 1 = (sb5, 0) := by rfl
theorem sbk1 : Sp.Ok sb1 := by have := Sp.Ok.create Sp.Ok.new 3 ⟨#[109]⟩; rw [sb_1] at this; exact this
theorem sbk2 : Sp.Ok sb2 := by have := sbk1.append 1 0 [97, 98]; rw [sb_2] at this; exact this
theorem sbk3 : Sp.Ok sb3 := by have := sbk2.append 1 2 [99]; rw [sb_4] at this; exact this
theorem sbk4 : Sp.Ok sb4 := by have := sbk3.begins 1; rw [sb_5] at this; exact this
theorem sbk5 : Sp.Ok sb5 := by have := sbk4.ends 1; rw [sb_6] at this; exact this
/-- a spool all of whose memory is new -/
abbrev SpNew (B : Nat) (w : World) (g : Nat) (s : Sp.St) : Prop := SpoolAt w (fun k => B ≤ k) g s
theorem Did.new_ {B : Nat} {w w' : World} {g : Nat} {r : Sp.St × Nat} {e : Ending} (h : Did (fun k => B ≤ k) 49 w g r e w') (hB : B ≤ w.heap.size) : e = .returned (.int .i64 (r.2 : Int)) ∧ SpNew B w' g r.1 ∧ Below B w w' := by
  refine ⟨h.ret, h.at_.mono (fun k _ e => ?_), h.turns.below (fun k e => e) hB⟩
  rcases e with e | e
  · exact e
  · omega
theorem Made.new_ {B : Nat} {w w' : World} {g : Nat} {r : Sp.St × Int × Nat} {e : Ending} (h : Made (fun k => B ≤ k) 49 w g r e w') (hB : B ≤ w.heap.size) : e = .returned (.tuple #[.int .i64 r.2.1, .int .i64 (r.2.2 : Int)]) ∧ SpNew B w' g r.1 ∧ Below B w w' := by
  refine ⟨h.ret, h.at_.mono (fun k _ e => ?_), h.turns.below (fun k e => e) hB⟩
  rcases e with e | e
  · exact e
  · omega
theorem isB_ab (W : World) : IsB (W.alloc (.cells #[.int .u8 97, .int .u8 98] 5 (2, 3))) (some ⟨W.heap.size, 0, none⟩) 2 [97, 98] := by
  refine ⟨Nat.le_refl _, fun e => by simp at e, fun j hj => ⟨_, rfl, ?_⟩⟩
  rw [Addr.add_lit, World.cell?_alloc_mark, Nat.zero_add]
  match j, hj with
  | 0, _ => rfl
  | 1, _ => rfl
theorem isB_c (W : World) : IsB (W.alloc (.cells #[.int .u8 99] 5 (1, 2))) (some ⟨W.heap.size, 0, none⟩) 1 [99] := by
  refine ⟨Nat.le_refl _, fun e => by simp at e, fun j hj => ⟨_, rfl, ?_⟩⟩
  rw [Addr.add_lit, World.cell?_alloc_mark, Nat.zero_add]
  match j, hj with
  | 0, _ => rfl
set_option maxRecDepth 100000 in
set_option maxHeartbeats 2000000 in
theorem spoolBegun_any (w : World) :
    Calls Tryd.prog 4 #[] w fun e w' => e = .returned (.bool true) ∧ Below w.heap.size w w' := by
  have H0 := Hid.mk' (newU_any w)
  have H1 : Hid (∀ W, Below w.heap.size w W → SpNew w.heap.size W w.heap.size Sp.new → Calls Tryd.prog 9 #[.pointer (some ⟨w.heap.size, 0, none⟩), .int .i64 3, .string ⟨#[109]⟩] W fun e w' => e = .returned (.tuple #[.int .i64 1, .int .i64 0]) ∧ SpNew w.heap.size w' w.heap.size sb1 ∧ Below w.heap.size w w') := fun W hW hS => (createU_any Sp.new _ w.heap.size 3 ⟨#[109]⟩ W hS Sp.Ok.new (by decide) (by decide)).mono fun e w' hm => by
    rw [sb_1] at hm
    obtain ⟨h1, h2, h3⟩ := hm.new_ hW.size
    exact ⟨h1, h2, hW.trans h3⟩
  have H2 : Hid (∀ W, Below w.heap.size w W → SpNew w.heap.size W w.heap.size sb1 → Calls Tryd.prog 11 #[.pointer (some ⟨w.heap.size, 0, none⟩), .int .i64 1, .int .i64 0, .slice (some ⟨W.heap.size, 0, none⟩) 2 2] (W.alloc (.cells #[.int .u8 97, .int .u8 98] 5 (2, 3))) fun e w' => e = .returned (.int .i64 0) ∧ SpNew w.heap.size w' w.heap.size sb2 ∧ Below w.heap.size w w') := fun W hW hS => (appendU_any sb1 _ w.heap.size 1 0 _ 2 2 [97, 98] _ (hS.stay ((Below.refl _ _).alloc (Nat.le_refl _) _)) sbk1 (isB_ab W) rfl (by decide)).mono fun e w' hm => by
    rw [sb_2] at hm
    have hb : Below w.heap.size w (W.alloc (.cells #[.int .u8 97, .int .u8 98] 5 (2, 3))) := hW.alloc hW.size _
    obtain ⟨h1, h2, h3⟩ := hm.new_ hb.size
    exact ⟨h1, h2, hb.trans h3⟩
  have H3 : Hid (∀ W, Below w.heap.size w W → SpNew w.heap.size W w.heap.size sb2 → Calls Tryd.prog 17 #[.pointer (some ⟨w.heap.size, 0, none⟩), .int .i64 1] W fun e w' => e = .returned (.int .i64 14) ∧ SpNew w.heap.size w' w.heap.size sb2 ∧ Below w.heap.size w w') := fun W hW hS => (beginU_any sb2 _ w.heap.size 1 W hS sbk2).mono fun e w' hm => by
    rw [sb_3] at hm
    obtain ⟨h1, h2, h3⟩ := hm.new_ hW.size
    exact ⟨h1, h2, hW.trans h3⟩
  have H4 : Hid (∀ W, Below w.heap.size w W → SpNew w.heap.size W w.heap.size sb2 → Calls Tryd.prog 11 #[.pointer (some ⟨w.heap.size, 0, none⟩), .int .i64 1, .int .i64 2, .slice (some ⟨W.heap.size, 0, none⟩) 1 1] (W.alloc (.cells #[.int .u8 99] 5 (1, 2))) fun e w' => e = .returned (.int .i64 0) ∧ SpNew w.heap.size w' w.heap.size sb3 ∧ Below w.heap.size w w') := fun W hW hS => (appendU_any sb2 _ w.heap.size 1 2 _ 1 1 [99] _ (hS.stay ((Below.refl _ _).alloc (Nat.le_refl _) _)) sbk2 (isB_c W) rfl (by decide)).mono fun e w' hm => by
    rw [sb_4] at hm
    have hb : Below w.heap.size w (W.alloc (.cells #[.int .u8 99] 5 (1, 2))) := hW.alloc hW.size _
    obtain ⟨h1, h2, h3⟩ := hm.new_ hb.size
    exact ⟨h1, h2, hb.trans h3⟩
  have H5 : Hid (∀ W, Below w.heap.size w W → SpNew w.heap.size W w.heap.size sb3 → Calls Tryd.prog 17 #[.pointer (some ⟨w.heap.size, 0, none⟩), .int .i64 1] W fun e w' => e = .returned (.int .i64 0) ∧ SpNew w.heap.size w' w.heap.size sb4 ∧ Below w.heap.size w w') := fun W hW hS => (beginU_any sb3 _ w.heap.size 1 W hS sbk3).mono fun e w' hm => by
    rw [sb_5] at hm
    obtain ⟨h1, h2, h3⟩ := hm.new_ hW.size
    exact ⟨h1, h2, hW.trans h3⟩
  have H6 : Hid (∀ W, Below w.heap.size w W → SpNew w.heap.size W w.heap.size sb4 → Calls Tryd.prog 19 #[.pointer (some ⟨w.heap.size, 0, none⟩), .int .i64 1] W fun e w' => e = .returned (.int .i64 0) ∧ SpNew w.heap.size w' w.heap.size sb5 ∧ Below w.heap.size w w') := fun W hW hS => (endU_any sb4 _ w.heap.size 1 W hS sbk4).mono fun e w' hm => by
    rw [sb_6] at hm
    obtain ⟨h1, h2, h3⟩ := hm.new_ hW.size
    exact ⟨h1, h2, hW.trans h3⟩
  have H7 : Hid (∀ W, Below w.heap.size w W → SpNew w.heap.size W w.heap.size sb5 → Calls Tryd.prog 23 #[.pointer (some ⟨w.heap.size, 0, none⟩)] W fun e w' => e = .returned (.int .i64 3) ∧ SpNew w.heap.size w' w.heap.size sb5 ∧ Below w.heap.size w w') := fun W hW hS => (usedU_any sb5 _ w.heap.size W hS (by decide) (by decide)).mono fun e w' ⟨h1, h2⟩ => ⟨h1, hS.stay h2, hW.trans (h2.mono hW.size)⟩
  have H8 : Hid (∀ W, Below w.heap.size w W → SpNew w.heap.size W w.heap.size sb5 → Calls Tryd.prog 25 #[.pointer (some ⟨w.heap.size, 0, none⟩)] W fun e w' => e = .returned (.int .i64 2) ∧ SpNew w.heap.size w' w.heap.size sb5 ∧ Below w.heap.size w w') := fun W hW hS => (nextU_any sb5 _ w.heap.size W hS (by decide) (by decide)).mono fun e w' ⟨h1, h2⟩ => ⟨h1, by rw [h2]; exact hS, by rw [h2]; exact hW⟩
  have H9 : Hid (∀ W, Below w.heap.size w W → SpNew w.heap.size W w.heap.size sb5 → Calls Tryd.prog 22 #[.pointer (some ⟨w.heap.size, 0, none⟩)] W fun e w' => ∃ ao, e = .returned (.slice ao 1 1) ∧ Below w.heap.size w w') := fun W hW hS => (listU_any sb5 _ w.heap.size W hS sbk5.small).mono fun e w' ⟨ao, h1, h2, h3⟩ => ⟨ao, h1, hW.trans (h3.mono hW.size)⟩
  have kc := fun (w : World) (C : Array Value) (n c : Nat) => Lib.run_convert_bytes_const (P := Tryd.prog) w 37 5 C n c Tryd.underlying37 Tryd.underlying5
  go_enter Tryd.func4, Tryd.ntmps4
  go_wp2_with (first
    | (go_at_call 6; refine H0.out.mono ?_; rintro e w1 ⟨rfl, hs, hb⟩; have S1 := Hid.mk' hs; have B1 := Hid.mk' hb; clear hs hb)
    | (go_at_call 9; refine (H1.out _ B1.out S1.out).mono ?_; rintro e w2 ⟨rfl, hs, hb⟩; have S2 := Hid.mk' hs; have B2 := Hid.mk' hb; clear hs hb)
    | (go_at_call 11; refine (H2.out _ B2.out S2.out).mono ?_; rintro e w3 ⟨rfl, hs, hb⟩; have S3 := Hid.mk' hs; have B3 := Hid.mk' hb; clear hs hb H2)
    | (go_at_call 17; refine (H3.out _ B3.out S3.out).mono ?_; rintro e w4 ⟨rfl, hs, hb⟩; have S4 := Hid.mk' hs; have B4 := Hid.mk' hb; clear hs hb H3)
    | (go_at_call 11; refine (H4.out _ B4.out S4.out).mono ?_; rintro e w5 ⟨rfl, hs, hb⟩; have S5 := Hid.mk' hs; have B5 := Hid.mk' hb; clear hs hb)
    | (go_at_call 17; refine (H5.out _ B5.out S5.out).mono ?_; rintro e w6 ⟨rfl, hs, hb⟩; have S6 := Hid.mk' hs; have B6 := Hid.mk' hb; clear hs hb)
    | (go_at_call 19; refine (H6.out _ B6.out S6.out).mono ?_; rintro e w7 ⟨rfl, hs, hb⟩; have S7 := Hid.mk' hs; have B7 := Hid.mk' hb; clear hs hb)
    | (go_at_call 23; refine (H7.out _ B7.out S7.out).mono ?_; rintro e w8 ⟨rfl, hs, hb⟩; have S8 := Hid.mk' hs; have B8 := Hid.mk' hb; clear hs hb)
    | (go_at_call 25; refine (H8.out _ B8.out S8.out).mono ?_; rintro e w9 ⟨rfl, hs, hb⟩; have S9 := Hid.mk' hs; have B9 := Hid.mk' hb; clear hs hb)
    | (go_at_call 22; refine (H9.out _ B9.out S9.out).mono ?_; rintro e w10 ⟨ao, rfl, hb⟩; have B10 := Hid.mk' hb; clear hb))
  go_ret
  exact ⟨rfl, B10.out⟩
end Go.Proofs.YtankilclhknbkaaDoor

/- What a round of SpoolDoes holds. -/
namespace Go.Proofs.YtankilclhknbkaaDoor
open Go.RowKit

/-- a spool and the document's own, apart from each other, both the same; all of them from block B on; x's block apart from both -/
structure Duo (B : Nat) (w : World) (gs gh : Nat) (s t : Sp.St) (S H : Nat → Prop) : Prop where
  sp : SpoolAt w S gs s
  ho : HoldAt w H gh t
  apart : ∀ k, S k → ¬ H k
  lowS : ∀ k, S k → B ≤ k ∧ k < w.heap.size
  lowH : ∀ k, H k → B ≤ k ∧ k < w.heap.size
section
variable {B : Nat} {w w' : World} {gs gh : Nat} {s t : Sp.St} {S H : Nat → Prop}
theorem Duo.stay (h : Duo B w gs gh s t S H) (hb : Below w.heap.size w w') : Duo B w' gs gh s t S H := ⟨h.sp.stay hb, h.ho.stay hb, h.apart, fun k e => ⟨(h.lowS k e).1, by have := h.lowS k e; have := hb.size; omega⟩, fun k e => ⟨(h.lowH k e).1, by have := h.lowH k e; have := hb.size; omega⟩⟩
/-- the spool turned -/
theorem Duo.fst (h : Duo B w gs gh s t S H) (hB : B ≤ w.heap.size) {s' : Sp.St} (h1 : SpoolAt w' (orNew S w) gs s') (hT : Turns S w w') : Duo B w' gs gh s' t (fun k => orNew S w k ∧ k < w'.heap.size) H := by
  refine ⟨h1.mono (fun k hk e => ⟨e, hk⟩), h.ho.turns hT (fun k e e2 => h.apart k e2 e), fun k e e2 => ?_, fun k e => ⟨?_, e.2⟩, fun k e => ⟨(h.lowH k e).1, by have := h.lowH k e; have := hT.size; omega⟩⟩
  · rcases e.1 with e1 | e1
    · exact h.apart k e1 e2
    · have := (h.lowH k e2).2; omega
  · rcases e.1 with e1 | e1
    · exact (h.lowS k e1).1
    · omega
/-- the document's own turned -/
theorem Duo.snd (h : Duo B w gs gh s t S H) (hB : B ≤ w.heap.size) {t' : Sp.St} (h1 : HoldAt w' (orNew H w) gh t') (hT : Turns H w w') : Duo B w' gs gh s t' S (fun k => orNew H w k ∧ k < w'.heap.size) := by
  refine ⟨h.sp.turns hT (fun k e e2 => h.apart k e e2), h1.mono (fun k hk e => ⟨e, hk⟩), fun k e e2 => ?_, fun k e => ⟨(h.lowS k e).1, by have := h.lowS k e; have := hT.size; omega⟩, fun k e => ⟨?_, e.2⟩⟩
  · rcases e2.1 with e1 | e1
    · exact h.apart k e e1
    · have := (h.lowS k e).2; omega
  · rcases e.1 with e1 | e1
    · exact (h.lowH k e1).1
    · omega
end
/-- what stands apart from both objects: the copies, and the step's block -/
structure Side (w : World) (go gw xb : Nat) (s : Sp.St) (p : Stp) (N : Nat → Prop) : Prop where
  old : SpoolAt w N go s
  was : HoldAt w N gw s
  x : w.heap[xb]? = some (.cells #[.int .i64 p.op, .int .i64 p.id, .int .i64 p.n, .string p.text] 32 (0, 0))
  mem : N xb
section
variable {w w' : World} {go gw xb : Nat} {s : Sp.St} {p : Stp} {N T : Nat → Prop}
theorem Side.turns (h : Side w go gw xb s p N) (ht : Turns T w w') (hs : ∀ k, N k → ¬ T k) : Side w' go gw xb s p N := ⟨h.old.turns ht hs, h.was.turns ht hs, ht.row h.x (hs _ h.mem), h.mem⟩
theorem Side.stay (h : Side w go gw xb s p N) (hb : Below w.heap.size w w') : Side w' go gw xb s p N := h.turns (Turns.of_below (S := fun _ => False) hb) (fun _ _ e => e)
theorem Side.cells (h : Side w go gw xb s p N) : w.cell? ⟨xb, 0, none⟩ = some (.int .i64 p.op) ∧ w.cell? ⟨xb, 1, none⟩ = some (.int .i64 p.id) ∧ w.cell? ⟨xb, 2, none⟩ = some (.int .i64 p.n) ∧ w.cell? ⟨xb, 3, none⟩ = some (.string p.text) := ⟨cell_of_row w xb 0 _ _ _ h.x, cell_of_row w xb 1 _ _ _ h.x, cell_of_row w xb 2 _ _ _ h.x, cell_of_row w xb 3 _ _ _ h.x⟩
end
/-- all that a round of the law holds: both objects, what they were at its beginning, and the step -/
def RoundAt (B : Nat) (w0 w : World) (gs gh go gw xb : Nat) (s t s0 : Sp.St) (p : Stp) : Prop :=
  ∃ S H N : Nat → Prop, Duo B w gs gh s t S H ∧ Side w go gw xb s0 p N ∧ (∀ k, N k → (¬ S k ∧ ¬ H k) ∧ k < w.heap.size) ∧ Below B w0 w ∧ (Sp.Ok s ∧ Sp.Ok t ∧ Sp.Ok s0) ∧ B ≤ w.heap.size
section
variable {B : Nat} {w0 w w' : World} {gs gh go gw xb : Nat} {s t s0 : Sp.St} {p : Stp}
theorem RoundAt.stay (h : RoundAt B w0 w gs gh go gw xb s t s0 p) (hb : Below w.heap.size w w') : RoundAt B w0 w' gs gh go gw xb s t s0 p := by
  obtain ⟨S, H, N, hD, hS, hN, hB, ok, hs⟩ := h
  have := hb.size
  exact ⟨S, H, N, hD.stay hb, hS.stay hb, fun k e => ⟨(hN k e).1, by have := (hN k e).2; omega⟩, hB.trans (hb.mono hs), ok, by omega⟩
theorem RoundAt.fst (h : RoundAt B w0 w gs gh go gw xb s t s0 p) : ∃ S, SpoolAt w S gs s ∧ Sp.Ok s ∧ ∀ w' s', SpoolAt w' (orNew S w) gs s' → Turns S w w' → Sp.Ok s' → RoundAt B w0 w' gs gh go gw xb s' t s0 p := by
  obtain ⟨S, H, N, hD, hS, hN, hB, ok, hs⟩ := h
  refine ⟨S, hD.sp, ok.1, fun w' s' h1 hT ok' => ⟨_, _, N, hD.fst hs h1 hT, hS.turns hT (fun k e => (hN k e).1.1), fun k e => ⟨⟨fun e2 => ?_, (hN k e).1.2⟩, by have := (hN k e).2; have := hT.size; omega⟩, hB.trans (hT.below (fun k e => (hD.lowS k e).1) hs), ⟨ok', ok.2⟩, by have := hT.size; omega⟩⟩
  rcases e2.1 with e3 | e3
  · exact (hN k e).1.1 e3
  · have := (hN k e).2; omega
theorem RoundAt.snd (h : RoundAt B w0 w gs gh go gw xb s t s0 p) : ∃ H, HoldAt w H gh t ∧ Sp.Ok t ∧ ∀ w' t', HoldAt w' (orNew H w) gh t' → Turns H w w' → Sp.Ok t' → RoundAt B w0 w' gs gh go gw xb s t' s0 p := by
  obtain ⟨S, H, N, hD, hS, hN, hB, ok, hs⟩ := h
  refine ⟨H, hD.ho, ok.2.1, fun w' t' h1 hT ok' => ⟨_, _, N, hD.snd hs h1 hT, hS.turns hT (fun k e => (hN k e).1.2), fun k e => ⟨⟨(hN k e).1.1, fun e2 => ?_⟩, by have := (hN k e).2; have := hT.size; omega⟩, hB.trans (hT.below (fun k e => (hD.lowH k e).1) hs), ⟨ok.1, ok', ok.2.2⟩, by have := hT.size; omega⟩⟩
  rcases e2.1 with e3 | e3
  · exact (hN k e).1.2 e3
  · have := (hN k e).2; omega
theorem RoundAt.side (h : RoundAt B w0 w gs gh go gw xb s t s0 p) : ∃ N, Side w go gw xb s0 p N ∧ Sp.Ok s0 := by
  obtain ⟨S, H, N, hD, hS, hN, hB, ok, hs⟩ := h
  exact ⟨N, hS, ok.2.2⟩
theorem RoundAt.below (h : RoundAt B w0 w gs gh go gw xb s t s0 p) : Below B w0 w := by
  obtain ⟨S, H, N, hD, hS, hN, hB, ok, hs⟩ := h
  exact hB
end
/-- a step of the spool, in a round -/
theorem RoundAt.did {B : Nat} {w0 w : World} {gs gh go gw xb : Nat} {s t s0 : Sp.St} {p : Stp} {f : Nat} {args : Array Value} {r : Sp.St × Nat} (h : RoundAt B w0 w gs gh go gw xb s t s0 p) (ok' : Sp.Ok r.1)
    (hc : ∀ S, SpoolAt w S gs s → Sp.Ok s → Calls Tryd.prog f args w (Did S 49 w gs r)) : Calls Tryd.prog f args w fun e w' => e = .returned (.int .i64 (r.2 : Int)) ∧ RoundAt B w0 w' gs gh go gw xb r.1 t s0 p := by
  obtain ⟨S, h1, ok, hK⟩ := h.fst
  exact (hc S h1 ok).mono fun e w' hd => ⟨hd.ret, hK w' _ hd.at_ hd.turns ok'⟩
/-- a step of the document's own, in a round -/
theorem RoundAt.held {B : Nat} {w0 w : World} {gs gh go gw xb : Nat} {s t s0 : Sp.St} {p : Stp} {f : Nat} {args : Array Value} {r : Sp.St × Nat} (h : RoundAt B w0 w gs gh go gw xb s t s0 p) (ok' : Sp.Ok r.1)
    (hc : ∀ H, HoldAt w H gh t → Sp.Ok t → Calls Tryd.prog f args w (Did H 30 w gh r)) : Calls Tryd.prog f args w fun e w' => e = .returned (.int .i64 (r.2 : Int)) ∧ RoundAt B w0 w' gs gh go gw xb s r.1 s0 p := by
  obtain ⟨S, h1, ok, hK⟩ := h.snd
  exact (hc S h1 ok).mono fun e w' hd => ⟨hd.ret, hK w' _ hd.at_ hd.turns ok'⟩
/-- a piece of a text by the way to it -/
def spAt : List Nat → Code → Code
  | [], c => c
  | 0 :: p, .seq x _ => spAt p x
  | _ :: p, .seq _ y => spAt p y
  | _ :: p, .loop c => spAt p c
  | _ :: p, .block _ c => spAt p c
  | _ :: p, .scope c => spAt p c
  | 0 :: p, .cond _ x _ => spAt p x
  | _ :: p, .cond _ _ y => spAt p y
  | _, c => c
noncomputable def spApp : Code := spAt [1, 1, 1, 1, 0, 1, 1, 1, 1, 0, 1, 1, 1, 1, 0, 1, 1, 1, 1, 1, 0] (Tryd.f3.body.getD .skip)
noncomputable def spLast : Code := spAt [1, 1, 1, 1, 0, 1, 1, 1, 1, 0, 1, 1, 1, 1, 1, 1, 1, 1, 0] (Tryd.f3.body.getD .skip)
noncomputable def spSwitch : Code := spAt [1, 1, 1, 1, 0, 1, 1, 1, 1, 0, 1, 1, 1, 1, 0, 1] (Tryd.f3.body.getD .skip)
noncomputable def spAll : Code := spAt [1, 1, 1, 1, 0, 1, 1, 1, 1, 0, 1, 1, 1, 1, 1, 0, 0] (Tryd.f3.body.getD .skip)
end Go.Proofs.YtankilclhknbkaaDoor
