/- Small texts, one behind the other: SqL, SqDuo, SqLawE, SqLawG, SqLawF, SqLawH, SqLawD. -/
import Derived.Test.YtankilclhknbkaaDoorPk11
import Derived.Lib.SlBytesConst
import Derived.Test.YtankilclhknbkaaDoorRfHS
import Derived.Deep.DeepCutAuto
/- The statements' own: spoolBegun, walked. -/
namespace Go.Proofs.YtankilclhknbkaaDoor
open Go.RowKit

def sb1 : Sp.St := ⟨[⟨1, 3, ⟨#[109]⟩, [], 0⟩], 1⟩
def sb2 : Sp.St := ⟨[⟨1, 3, ⟨#[109]⟩, [97, 98], 0⟩], 1⟩
def sb3 : Sp.St := ⟨[⟨1, 3, ⟨#[109]⟩, [97, 98, 99], 0⟩], 1⟩
def sb4 : Sp.St := ⟨[⟨1, 3, ⟨#[109]⟩, [97, 98, 99], 1⟩], 1⟩
def sb5 : Sp.St := ⟨[⟨1, 3, ⟨#[109]⟩, [97, 98, 99], 2⟩], 1⟩
theorem sb_1 : Sp.create Sp.new 3 ⟨#[109]⟩ = (sb1, 1, 0) := by
  unfold Sp.create
  rw [if_neg (by decide), if_neg (by decide), if_neg, if_neg (by decide)]
  · rfl
  · decide
theorem sb_2 : Sp.append sb1 1 0 [97, 98] = (sb2, 0) := by rfl
theorem sb_3 : Sp.begins sb2 1 = (sb2, 14) := by rfl
theorem sb_4 : Sp.append sb2 1 2 [99] = (sb3, 0) := by rfl
theorem sb_5 : Sp.begins sb3 1 = (sb4, 0) := by rfl
theorem sb_6 : Sp.ends sb4 1 = (sb5, 0) := by rfl
theorem sbk1 : Sp.Ok sb1 := by have := Sp.Ok.create Sp.Ok.new 3 ⟨#[109]⟩; rw [sb_1] at this; exact this
theorem sbk2 : Sp.Ok sb2 := by have := sbk1.append 1 0 [97, 98]; rw [sb_2] at this; exact this
theorem sbk3 : Sp.Ok sb3 := by have := sbk2.append 1 2 [99]; rw [sb_4] at this; exact this
theorem sbk4 : Sp.Ok sb4 := by have := sbk3.begins 1; rw [sb_5] at this; exact this
theorem sbk5 : Sp.Ok sb5 := by have := sbk4.ends 1; rw [sb_6] at this; exact this
/-- a spool all of whose memory is new -/
abbrev SpNew (B : Nat) (w : World) (g : Nat) (s : Sp.St) : Prop := SpoolAt w (fun k => B ≤ k) g s
theorem Did.new_ {B : Nat} {w w' : World} {g : Nat} {r : Sp.St × Nat} {e : Ending} (h : Did (fun k => B ≤ k) 49 w g r e w') (hB : B ≤ w.heap.size) : e = .returned (.int .i64 (r.2 : Int)) ∧ SpNew B w' g r.1 ∧ Below B w w' := by
  refine ⟨h.ret, h.at_.mono (fun k _ e => ?_), h.turns.below (fun k e => e) hB⟩
  rcases e with e | e
  · exact e
  · omega
theorem Made.new_ {B : Nat} {w w' : World} {g : Nat} {r : Sp.St × Int × Nat} {e : Ending} (h : Made (fun k => B ≤ k) 49 w g r e w') (hB : B ≤ w.heap.size) : e = .returned (.tuple #[.int .i64 r.2.1, .int .i64 (r.2.2 : Int)]) ∧ SpNew B w' g r.1 ∧ Below B w w' := by
  refine ⟨h.ret, h.at_.mono (fun k _ e => ?_), h.turns.below (fun k e => e) hB⟩
  rcases e with e | e
  · exact e
  · omega
theorem isB_ab (W : World) : IsB (W.alloc (.cells #[.int .u8 97, .int .u8 98] 5 (2, 3))) (some ⟨W.heap.size, 0, none⟩) 2 [97, 98] := by
  refine ⟨Nat.le_refl _, fun e => by simp at e, fun j hj => ⟨_, rfl, ?_⟩⟩
  rw [Addr.add_lit, World.cell?_alloc_mark, Nat.zero_add]
  match j, hj with
  | 0, _ => rfl
  | 1, _ => rfl
theorem isB_c (W : World) : IsB (W.alloc (.cells #[.int .u8 99] 5 (1, 2))) (some ⟨W.heap.size, 0, none⟩) 1 [99] := by
  refine ⟨Nat.le_refl _, fun e => by simp at e, fun j hj => ⟨_, rfl, ?_⟩⟩
  rw [Addr.add_lit, World.cell?_alloc_mark, Nat.zero_add]
  match j, hj with
  | 0, _ => rfl
set_option maxRecDepth 100000 in
set_option maxHeartbeats 2000000 in
theorem spoolBegun_any (w : World) :
    Calls Tryd.prog 4 #[] w fun e w' => e = .returned (.bool true) ∧ Below w.heap.size w w' := by
  have H0 := Hid.mk' (newU_any w)
  have H1 : Hid (∀ W, Below w.heap.size w W → SpNew w.heap.size W w.heap.size Sp.new → Calls Tryd.prog 9 #[.pointer (some ⟨w.heap.size, 0, none⟩), .int .i64 3, .string ⟨#[109]⟩] W fun e w' => e = .returned (.tuple #[.int .i64 1, .int .i64 0]) ∧ SpNew w.heap.size w' w.heap.size sb1 ∧ Below w.heap.size w w') := fun W hW hS => (createU_any Sp.new _ w.heap.size 3 ⟨#[109]⟩ W hS Sp.Ok.new (by decide) (by decide)).mono fun e w' hm => by
    rw [sb_1] at hm
    obtain ⟨h1, h2, h3⟩ := hm.new_ hW.size
    exact ⟨h1, h2, hW.trans h3⟩
  have H2 : Hid (∀ W, Below w.heap.size w W → SpNew w.heap.size W w.heap.size sb1 → Calls Tryd.prog 11 #[.pointer (some ⟨w.heap.size, 0, none⟩), .int .i64 1, .int .i64 0, .slice (some ⟨W.heap.size, 0, none⟩) 2 2] (W.alloc (.cells #[.int .u8 97, .int .u8 98] 5 (2, 3))) fun e w' => e = .returned (.int .i64 0) ∧ SpNew w.heap.size w' w.heap.size sb2 ∧ Below w.heap.size w w') := fun W hW hS => (appendU_any sb1 _ w.heap.size 1 0 _ 2 2 [97, 98] _ (hS.stay ((Below.refl _ _).alloc (Nat.le_refl _) _)) sbk1 (isB_ab W) rfl (by decide)).mono fun e w' hm => by
    rw [sb_2] at hm
    have hb : Below w.heap.size w (W.alloc (.cells #[.int .u8 97, .int .u8 98] 5 (2, 3))) := hW.alloc hW.size _
    obtain ⟨h1, h2, h3⟩ := hm.new_ hb.size
    exact ⟨h1, h2, hb.trans h3⟩
  have H3 : Hid (∀ W, Below w.heap.size w W → SpNew w.heap.size W w.heap.size sb2 → Calls Tryd.prog 17 #[.pointer (some ⟨w.heap.size, 0, none⟩), .int .i64 1] W fun e w' => e = .returned (.int .i64 14) ∧ SpNew w.heap.size w' w.heap.size sb2 ∧ Below w.heap.size w w') := fun W hW hS => (beginU_any sb2 _ w.heap.size 1 W hS sbk2).mono fun e w' hm => by
    rw [sb_3] at hm
    obtain ⟨h1, h2, h3⟩ := hm.new_ hW.size
    exact ⟨h1, h2, hW.trans h3⟩
  have H4 : Hid (∀ W, Below w.heap.size w W → SpNew w.heap.size W w.heap.size sb2 → Calls Tryd.prog 11 #[.pointer (some ⟨w.heap.size, 0, none⟩), .int .i64 1, .int .i64 2, .slice (some ⟨W.heap.size, 0, none⟩) 1 1] (W.alloc (.cells #[.int .u8 99] 5 (1, 2))) fun e w' => e = .returned (.int .i64 0) ∧ SpNew w.heap.size w' w.heap.size sb3 ∧ Below w.heap.size w w') := fun W hW hS => (appendU_any sb2 _ w.heap.size 1 2 _ 1 1 [99] _ (hS.stay ((Below.refl _ _).alloc (Nat.le_refl _) _)) sbk2 (isB_c W) rfl (by decide)).mono fun e w' hm => by
    rw [sb_4] at hm
    have hb : Below w.heap.size w (W.alloc (.cells #[.int .u8 99] 5 (1, 2))) := hW.alloc hW.size _
    obtain ⟨h1, h2, h3⟩ := hm.new_ hb.size
    exact ⟨h1, h2, hb.trans h3⟩
  have H5 : Hid (∀ W, Below w.heap.size w W → SpNew w.heap.size W w.heap.size sb3 → Calls Tryd.prog 17 #[.pointer (some ⟨w.heap.size, 0, none⟩), .int .i64 1] W fun e w' => e = .returned (.int .i64 0) ∧ SpNew w.heap.size w' w.heap.size sb4 ∧ Below w.heap.size w w') := fun W hW hS => (beginU_any sb3 _ w.heap.size 1 W hS sbk3).mono fun e w' hm => by
    rw [sb_5] at hm
    obtain ⟨h1, h2, h3⟩ := hm.new_ hW.size
    exact ⟨h1, h2, hW.trans h3⟩
  have H6 : Hid (∀ W, Below w.heap.size w W → SpNew w.heap.size W w.heap.size sb4 → Calls Tryd.prog 19 #[.pointer (some ⟨w.heap.size, 0, none⟩), .int .i64 1] W fun e w' => e = .returned (.int .i64 0) ∧ SpNew w.heap.size w' w.heap.size sb5 ∧ Below w.heap.size w w') := fun W hW hS => (endU_any sb4 _ w.heap.size 1 W hS sbk4).mono fun e w' hm => by
    rw [sb_6] at hm
    obtain ⟨h1, h2, h3⟩ := hm.new_ hW.size
    exact ⟨h1, h2, hW.trans h3⟩
  have H7 : Hid (∀ W, Below w.heap.size w W → SpNew w.heap.size W w.heap.size sb5 → Calls Tryd.prog 23 #[.pointer (some ⟨w.heap.size, 0, none⟩)] W fun e w' => e = .returned (.int .i64 3) ∧ SpNew w.heap.size w' w.heap.size sb5 ∧ Below w.heap.size w w') := fun W hW hS => (usedU_any sb5 _ w.heap.size W hS (by decide) (by decide)).mono fun e w' ⟨h1, h2⟩ => ⟨h1, hS.stay h2, hW.trans (h2.mono hW.size)⟩
  have H8 : Hid (∀ W, Below w.heap.size w W → SpNew w.heap.size W w.heap.size sb5 → Calls Tryd.prog 25 #[.pointer (some ⟨w.heap.size, 0, none⟩)] W fun e w' => e = .returned (.int .i64 2) ∧ SpNew w.heap.size w' w.heap.size sb5 ∧ Below w.heap.size w w') := fun W hW hS => (nextU_any sb5 _ w.heap.size W hS (by decide) (by decide)).mono fun e w' ⟨h1, h2⟩ => ⟨h1, by rw [h2]; exact hS, by rw [h2]; exact hW⟩
  have H9 : Hid (∀ W, Below w.heap.size w W → SpNew w.heap.size W w.heap.size sb5 → Calls Tryd.prog 22 #[.pointer (some ⟨w.heap.size, 0, none⟩)] W fun e w' => ∃ ao, e = .returned (.slice ao 1 1) ∧ Below w.heap.size w w') := fun W hW hS => (listU_any sb5 _ w.heap.size W hS sbk5.small).mono fun e w' ⟨ao, h1, h2, h3⟩ => ⟨ao, h1, hW.trans (h3.mono hW.size)⟩
  have kc := fun (w : World) (C : Array Value) (n c : Nat) => Lib.run_convert_bytes_const (P := Tryd.prog) w 37 5 C n c Tryd.underlying37 Tryd.underlying5
  go_enter Tryd.func4, Tryd.ntmps4
  go_wp2_with (first
    | (go_at_call 6; refine H0.out.mono ?_; rintro e w1 ⟨rfl, hs, hb⟩; have S1 := Hid.mk' hs; have B1 := Hid.mk' hb; clear hs hb)
    | (go_at_call 9; refine (H1.out _ B1.out S1.out).mono ?_; rintro e w2 ⟨rfl, hs, hb⟩; have S2 := Hid.mk' hs; have B2 := Hid.mk' hb; clear hs hb)
    | (go_at_call 11; refine (H2.out _ B2.out S2.out).mono ?_; rintro e w3 ⟨rfl, hs, hb⟩; have S3 := Hid.mk' hs; have B3 := Hid.mk' hb; clear hs hb H2)
    | (go_at_call 17; refine (H3.out _ B3.out S3.out).mono ?_; rintro e w4 ⟨rfl, hs, hb⟩; have S4 := Hid.mk' hs; have B4 := Hid.mk' hb; clear hs hb H3)
    | (go_at_call 11; refine (H4.out _ B4.out S4.out).mono ?_; rintro e w5 ⟨rfl, hs, hb⟩; have S5 := Hid.mk' hs; have B5 := Hid.mk' hb; clear hs hb)
    | (go_at_call 17; refine (H5.out _ B5.out S5.out).mono ?_; rintro e w6 ⟨rfl, hs, hb⟩; have S6 := Hid.mk' hs; have B6 := Hid.mk' hb; clear hs hb)
    | (go_at_call 19; refine (H6.out _ B6.out S6.out).mono ?_; rintro e w7 ⟨rfl, hs, hb⟩; have S7 := Hid.mk' hs; have B7 := Hid.mk' hb; clear hs hb)
    | (go_at_call 23; refine (H7.out _ B7.out S7.out).mono ?_; rintro e w8 ⟨rfl, hs, hb⟩; have S8 := Hid.mk' hs; have B8 := Hid.mk' hb; clear hs hb)
    | (go_at_call 25; refine (H8.out _ B8.out S8.out).mono ?_; rintro e w9 ⟨rfl, hs, hb⟩; have S9 := Hid.mk' hs; have B9 := Hid.mk' hb; clear hs hb)
    | (go_at_call 22; refine (H9.out _ B9.out S9.out).mono ?_; rintro e w10 ⟨ao, rfl, hb⟩; have B10 := Hid.mk' hb; clear hb))
  go_ret
  exact ⟨rfl, B10.out⟩
end Go.Proofs.YtankilclhknbkaaDoor

/- What a round of SpoolDoes holds. -/
namespace Go.Proofs.YtankilclhknbkaaDoor
open Go.RowKit

/-- a spool and the document's own, apart from each other, both the same; all of them from block B on; x's block apart from both -/
structure Duo (B : Nat) (w : World) (gs gh : Nat) (s t : Sp.St) (S H : Nat → Prop) : Prop where
  sp : SpoolAt w S gs s
  ho : HoldAt w H gh t
  apart : ∀ k, S k → ¬ H k
  lowS : ∀ k, S k → B ≤ k ∧ k < w.heap.size
  lowH : ∀ k, H k → B ≤ k ∧ k < w.heap.size
section
variable {B : Nat} {w w' : World} {gs gh : Nat} {s t : Sp.St} {S H : Nat → Prop}
theorem Duo.stay (h : Duo B w gs gh s t S H) (hb : Below w.heap.size w w') : Duo B w' gs gh s t S H := ⟨h.sp.stay hb, h.ho.stay hb, h.apart, fun k e => ⟨(h.lowS k e).1, by have := h.lowS k e; have := hb.size; omega⟩, fun k e => ⟨(h.lowH k e).1, by have := h.lowH k e; have := hb.size; omega⟩⟩
/-- the spool turned -/
theorem Duo.fst (h : Duo B w gs gh s t S H) (hB : B ≤ w.heap.size) {s' : Sp.St} (h1 : SpoolAt w' (orNew S w) gs s') (hT : Turns S w w') : Duo B w' gs gh s' t (fun k => orNew S w k ∧ k < w'.heap.size) H := by
  refine ⟨h1.mono (fun k hk e => ⟨e, hk⟩), h.ho.turns hT (fun k e e2 => h.apart k e2 e), fun k e e2 => ?_, fun k e => ⟨?_, e.2⟩, fun k e => ⟨(h.lowH k e).1, by have := h.lowH k e; have := hT.size; omega⟩⟩
  · rcases e.1 with e1 | e1
    · exact h.apart k e1 e2
    · have := (h.lowH k e2).2; omega
  · rcases e.1 with e1 | e1
    · exact (h.lowS k e1).1
    · omega
/-- the document's own turned -/
theorem Duo.snd (h : Duo B w gs gh s t S H) (hB : B ≤ w.heap.size) {t' : Sp.St} (h1 : HoldAt w' (orNew H w) gh t') (hT : Turns H w w') : Duo B w' gs gh s t' S (fun k => orNew H w k ∧ k < w'.heap.size) := by
  refine ⟨h.sp.turns hT (fun k e e2 => h.apart k e e2), h1.mono (fun k hk e => ⟨e, hk⟩), fun k e e2 => ?_, fun k e => ⟨(h.lowS k e).1, by have := h.lowS k e; have := hT.size; omega⟩, fun k e => ⟨?_, e.2⟩⟩
  · rcases e2.1 with e1 | e1
    · exact h.apart k e e1
    · have := (h.lowS k e).2; omega
  · rcases e.1 with e1 | e1
    · exact (h.lowH k e1).1
    · omega
end
/-- what stands apart from both objects: the copies, and the step's block -/
structure Side (w : World) (go gw xb : Nat) (s : Sp.St) (p : Stp) (N : Nat → Prop) : Prop where
  old : SpoolAt w N go s
  was : HoldAt w N gw s
  x : w.heap[xb]? = some (.cells #[.int .i64 p.op, .int .i64 p.id, .int .i64 p.n, .string p.text] 32 (0, 0))
  mem : N xb
section
variable {w w' : World} {go gw xb : Nat} {s : Sp.St} {p : Stp} {N T : Nat → Prop}
theorem Side.turns (h : Side w go gw xb s p N) (ht : Turns T w w') (hs : ∀ k, N k → ¬ T k) : Side w' go gw xb s p N := ⟨h.old.turns ht hs, h.was.turns ht hs, ht.row h.x (hs _ h.mem), h.mem⟩
theorem Side.stay (h : Side w go gw xb s p N) (hb : Below w.heap.size w w') : Side w' go gw xb s p N := h.turns (Turns.of_below (S := fun _ => False) hb) (fun _ _ e => e)
theorem Side.cells (h : Side w go gw xb s p N) : w.cell? ⟨xb, 0, none⟩ = some (.int .i64 p.op) ∧ w.cell? ⟨xb, 1, none⟩ = some (.int .i64 p.id) ∧ w.cell? ⟨xb, 2, none⟩ = some (.int .i64 p.n) ∧ w.cell? ⟨xb, 3, none⟩ = some (.string p.text) := ⟨cell_of_row w xb 0 _ _ _ h.x, cell_of_row w xb 1 _ _ _ h.x, cell_of_row w xb 2 _ _ _ h.x, cell_of_row w xb 3 _ _ _ h.x⟩
end
/-- all that a round of the law holds: both objects, what they were at its beginning, and the step -/
def RoundAt (B : Nat) (w0 w : World) (gs gh go gw xb : Nat) (s t s0 : Sp.St) (p : Stp) : Prop :=
  ∃ S H N : Nat → Prop, Duo B w gs gh s t S H ∧ Side w go gw xb s0 p N ∧ (∀ k, N k → (¬ S k ∧ ¬ H k) ∧ k < w.heap.size) ∧ Below B w0 w ∧ (Sp.Ok s ∧ Sp.Ok t ∧ Sp.Ok s0) ∧ B ≤ w.heap.size
section
variable {B : Nat} {w0 w w' : World} {gs gh go gw xb : Nat} {s t s0 : Sp.St} {p : Stp}
theorem RoundAt.stay (h : RoundAt B w0 w gs gh go gw xb s t s0 p) (hb : Below w.heap.size w w') : RoundAt B w0 w' gs gh go gw xb s t s0 p := by
  obtain ⟨S, H, N, hD, hS, hN, hB, ok, hs⟩ := h
  have := hb.size
  exact ⟨S, H, N, hD.stay hb, hS.stay hb, fun k e => ⟨(hN k e).1, by have := (hN k e).2; omega⟩, hB.trans (hb.mono hs), ok, by omega⟩
theorem RoundAt.fst (h : RoundAt B w0 w gs gh go gw xb s t s0 p) : ∃ S, SpoolAt w S gs s ∧ Sp.Ok s ∧ ∀ w' s', SpoolAt w' (orNew S w) gs s' → Turns S w w' → Sp.Ok s' → RoundAt B w0 w' gs gh go gw xb s' t s0 p := by
  obtain ⟨S, H, N, hD, hS, hN, hB, ok, hs⟩ := h
  refine ⟨S, hD.sp, ok.1, fun w' s' h1 hT ok' => ⟨_, _, N, hD.fst hs h1 hT, hS.turns hT (fun k e => (hN k e).1.1), fun k e => ⟨⟨fun e2 => ?_, (hN k e).1.2⟩, by have := (hN k e).2; have := hT.size; omega⟩, hB.trans (hT.below (fun k e => (hD.lowS k e).1) hs), ⟨ok', ok.2⟩, by have := hT.size; omega⟩⟩
  rcases e2.1 with e3 | e3
  · exact (hN k e).1.1 e3
  · have := (hN k e).2; omega
theorem RoundAt.snd (h : RoundAt B w0 w gs gh go gw xb s t s0 p) : ∃ H, HoldAt w H gh t ∧ Sp.Ok t ∧ ∀ w' t', HoldAt w' (orNew H w) gh t' → Turns H w w' → Sp.Ok t' → RoundAt B w0 w' gs gh go gw xb s t' s0 p := by
  obtain ⟨S, H, N, hD, hS, hN, hB, ok, hs⟩ := h
  refine ⟨H, hD.ho, ok.2.1, fun w' t' h1 hT ok' => ⟨_, _, N, hD.snd hs h1 hT, hS.turns hT (fun k e => (hN k e).1.2), fun k e => ⟨⟨(hN k e).1.1, fun e2 => ?_⟩, by have := (hN k e).2; have := hT.size; omega⟩, hB.trans (hT.below (fun k e => (hD.lowH k e).1) hs), ⟨ok.1, ok', ok.2.2⟩, by have := hT.size; omega⟩⟩
  rcases e2.1 with e3 | e3
  · exact (hN k e).1.2 e3
  · have := (hN k e).2; omega
theorem RoundAt.side (h : RoundAt B w0 w gs gh go gw xb s t s0 p) : ∃ N, Side w go gw xb s0 p N ∧ Sp.Ok s0 := by
  obtain ⟨S, H, N, hD, hS, hN, hB, ok, hs⟩ := h
  exact ⟨N, hS, ok.2.2⟩
theorem RoundAt.below (h : RoundAt B w0 w gs gh go gw xb s t s0 p) : Below B w0 w := by
  obtain ⟨S, H, N, hD, hS, hN, hB, ok, hs⟩ := h
  exact hB
end
/-- a step of the spool, in a round -/
theorem RoundAt.did {B : Nat} {w0 w : World} {gs gh go gw xb : Nat} {s t s0 : Sp.St} {p : Stp} {f : Nat} {args : Array Value} {r : Sp.St × Nat} (h : RoundAt B w0 w gs gh go gw xb s t s0 p) (ok' : Sp.Ok r.1)
    (hc : ∀ S, SpoolAt w S gs s → Sp.Ok s → Calls Tryd.prog f args w (Did S 49 w gs r)) : Calls Tryd.prog f args w fun e w' => e = .returned (.int .i64 (r.2 : Int)) ∧ RoundAt B w0 w' gs gh go gw xb r.1 t s0 p := by
  obtain ⟨S, h1, ok, hK⟩ := h.fst
  exact (hc S h1 ok).mono fun e w' hd => ⟨hd.ret, hK w' _ hd.at_ hd.turns ok'⟩
/-- a step of the document's own, in a round -/
theorem RoundAt.held {B : Nat} {w0 w : World} {gs gh go gw xb : Nat} {s t s0 : Sp.St} {p : Stp} {f : Nat} {args : Array Value} {r : Sp.St × Nat} (h : RoundAt B w0 w gs gh go gw xb s t s0 p) (ok' : Sp.Ok r.1)
    (hc : ∀ H, HoldAt w H gh t → Sp.Ok t → Calls Tryd.prog f args w (Did H 30 w gh r)) : Calls Tryd.prog f args w fun e w' => e = .returned (.int .i64 (r.2 : Int)) ∧ RoundAt B w0 w' gs gh go gw xb s r.1 s0 p := by
  obtain ⟨S, h1, ok, hK⟩ := h.snd
  exact (hc S h1 ok).mono fun e w' hd => ⟨hd.ret, hK w' _ hd.at_ hd.turns ok'⟩
/-- a piece of a text by the way to it -/
def spAt : List Nat → Code → Code
  | [], c => c
  | 0 :: p, .seq x _ => spAt p x
  | _ :: p, .seq _ y => spAt p y
  | _ :: p, .loop c => spAt p c
  | _ :: p, .block _ c => spAt p c
  | _ :: p, .scope c => spAt p c
  | 0 :: p, .cond _ x _ => spAt p x
  | _ :: p, .cond _ _ y => spAt p y
  | _, c => c
noncomputable def spApp : Code := spAt [1, 1, 1, 1, 0, 1, 1, 1, 1, 0, 1, 1, 1, 1, 0, 1, 1, 1, 1, 1, 0] (Tryd.f3.body.getD .skip)
noncomputable def spLast : Code := spAt [1, 1, 1, 1, 0, 1, 1, 1, 1, 0, 1, 1, 1, 1, 1, 1, 1, 1, 0] (Tryd.f3.body.getD .skip)
noncomputable def spSwitch : Code := spAt [1, 1, 1, 1, 0, 1, 1, 1, 1, 0, 1, 1, 1, 1, 0, 1] (Tryd.f3.body.getD .skip)
noncomputable def spAll : Code := spAt [1, 1, 1, 1, 0, 1, 1, 1, 1, 0, 1, 1, 1, 1, 1, 0, 0] (Tryd.f3.body.getD .skip)
end Go.Proofs.YtankilclhknbkaaDoor

/- SpoolDoes: Append's region, walked. -/
namespace Go.Proofs.YtankilclhknbkaaDoor
open Go.RowKit

set_option maxRecDepth 100000 in
set_option maxHeartbeats 20000000 in
theorem spApp_any (w wc : World) (gs gh go gw xb : Nat) (s : Sp.St) (p : Stp) (hRd : RoundAt w.heap.size w wc gs gh go gw xb s s s p) (hok : Sp.Ok s) (htx : p.text.size ≤ 20000) (Q0 : Exit → Act → World → Prop)
    (x0 x1 x2 x5 x7 x8 x9 x10 x11 x12 x13 x14 x15 x16 x17 x18 x19 x20 x21 x22 x23 x24 x25 x26 x27 x28 x29 x30 x31 x32 x33 x34 x35 x36 x37 x38 x39 x40 x41 x42 x43 x44 x45 x46 x47 x48 x49 x50 x51 x52 x53 x54 x55 x56 x57 x58 x59 x60 x61 x62 x63 x64 x65 x66 x67 x68 x69 x70 x71 x72 x73 x74 x75 x76 x77 x78 x79 x80 x81 x82 x83 x84 x85 x86 x87 x88 x89 x90 x91 x92 x93 x94 x95 x96 x97 x98 x99 x100 x101 x102 x103 x104 x105 x106 x107 x108 x109 x110 x111 x112 x113 x114 x115 x116 x117 x118 x119 x120 x121 x122 x123 x124 x125 x126 x127 x128 x129 x130 x131 x132 x133 x134 x135 x136 x137 x138 x139 x140 x141 x142 x143 x144 x145 x146 x147 x148 x149 x150 x151 x152 x153 x154 x155 x156 x157 x158 x159 x160 x161 x162 x163 x164 x165 x166 x167 x168 x169 x170 x171 x172 x173 x174 x175 x176 x177 x178 x179 x180 x181 x182 x183 x184 x185 x186 x187 x188 x189 x190 x191 x192 x193 x194 x195 x196 x197 x198 x199 x200 x201 x202 x203 x204 x205 x206 x207 x208 x209 x210 x211 x212 x213 x214 x215 x216 x217 x218 : Value)
    (hexit : ∀ (w' : World) (y64 y65 y66 y67 y68 y69 y70 y71 y72 y73 y74 y75 y76 y77 y78 y79 y80 y81 : Value), RoundAt w.heap.size w w' gs gh go gw xb (Sp.append s p.id p.n p.text.data.toList).1 (Sp.append s p.id p.n p.text.data.toList).1 s p → Q0 .normal ⟨(List.toArray (x0 :: x1 :: x2 :: (.pointer (some ⟨gs, 0, none⟩)) :: (.pointer (some ⟨gh, 0, none⟩)) :: x5 :: (.pointer (some ⟨xb, 0, none⟩)) :: x7 :: x8 :: (.int .i64 ((Sp.append s p.id p.n p.text.data.toList).2 : Int)) :: (.int .i64 ((Sp.append s p.id p.n p.text.data.toList).2 : Int)) :: x11 :: x12 :: x13 :: x14 :: x15 :: x16 :: x17 :: x18 :: x19 :: x20 :: x21 :: x22 :: x23 :: x24 :: x25 :: x26 :: x27 :: x28 :: x29 :: x30 :: x31 :: x32 :: x33 :: x34 :: x35 :: x36 :: x37 :: x38 :: x39 :: x40 :: x41 :: x42 :: x43 :: x44 :: x45 :: x46 :: x47 :: x48 :: x49 :: x50 :: x51 :: x52 :: x53 :: x54 :: x55 :: x56 :: x57 :: x58 :: x59 :: x60 :: x61 :: x62 :: x63 :: (y64) :: (y65) :: (y66) :: (y67) :: (y68) :: (y69) :: (y70) :: (y71) :: (y72) :: (y73) :: (y74) :: (y75) :: (y76) :: (y77) :: (y78) :: (y79) :: (y80) :: (y81) :: x82 :: x83 :: x84 :: x85 :: x86 :: x87 :: x88 :: x89 :: x90 :: x91 :: x92 :: x93 :: x94 :: x95 :: x96 :: x97 :: x98 :: x99 :: x100 :: x101 :: x102 :: x103 :: x104 :: x105 :: x106 :: x107 :: x108 :: x109 :: x110 :: x111 :: x112 :: x113 :: x114 :: x115 :: x116 :: x117 :: x118 :: x119 :: x120 :: x121 :: x122 :: x123 :: x124 :: x125 :: x126 :: x127 :: x128 :: x129 :: x130 :: x131 :: x132 :: x133 :: x134 :: x135 :: x136 :: x137 :: x138 :: x139 :: x140 :: x141 :: x142 :: x143 :: x144 :: x145 :: x146 :: x147 :: x148 :: x149 :: x150 :: x151 :: x152 :: x153 :: x154 :: x155 :: x156 :: x157 :: x158 :: x159 :: x160 :: x161 :: x162 :: x163 :: x164 :: x165 :: x166 :: x167 :: x168 :: x169 :: x170 :: x171 :: x172 :: x173 :: x174 :: x175 :: x176 :: x177 :: x178 :: x179 :: x180 :: x181 :: x182 :: x183 :: x184 :: x185 :: x186 :: x187 :: x188 :: x189 :: x190 :: x191 :: x192 :: x193 :: x194 :: x195 :: x196 :: x197 :: x198 :: x199 :: x200 :: x201 :: x202 :: x203 :: x204 :: x205 :: x206 :: x207 :: x208 :: x209 :: x210 :: x211 :: x212 :: x213 :: x214 :: x215 :: x216 :: x217 :: x218 :: [])), []⟩ w') :
    Code.wp Tryd.prog spApp Q0 ⟨(List.toArray (x0 :: x1 :: x2 :: (.pointer (some ⟨gs, 0, none⟩)) :: (.pointer (some ⟨gh, 0, none⟩)) :: x5 :: (.pointer (some ⟨xb, 0, none⟩)) :: x7 :: x8 :: x9 :: x10 :: x11 :: x12 :: x13 :: x14 :: x15 :: x16 :: x17 :: x18 :: x19 :: x20 :: x21 :: x22 :: x23 :: x24 :: x25 :: x26 :: x27 :: x28 :: x29 :: x30 :: x31 :: x32 :: x33 :: x34 :: x35 :: x36 :: x37 :: x38 :: x39 :: x40 :: x41 :: x42 :: x43 :: x44 :: x45 :: x46 :: x47 :: x48 :: x49 :: x50 :: x51 :: x52 :: x53 :: x54 :: x55 :: x56 :: x57 :: x58 :: x59 :: x60 :: x61 :: x62 :: x63 :: x64 :: x65 :: x66 :: x67 :: x68 :: x69 :: x70 :: x71 :: x72 :: x73 :: x74 :: x75 :: x76 :: x77 :: x78 :: x79 :: x80 :: x81 :: x82 :: x83 :: x84 :: x85 :: x86 :: x87 :: x88 :: x89 :: x90 :: x91 :: x92 :: x93 :: x94 :: x95 :: x96 :: x97 :: x98 :: x99 :: x100 :: x101 :: x102 :: x103 :: x104 :: x105 :: x106 :: x107 :: x108 :: x109 :: x110 :: x111 :: x112 :: x113 :: x114 :: x115 :: x116 :: x117 :: x118 :: x119 :: x120 :: x121 :: x122 :: x123 :: x124 :: x125 :: x126 :: x127 :: x128 :: x129 :: x130 :: x131 :: x132 :: x133 :: x134 :: x135 :: x136 :: x137 :: x138 :: x139 :: x140 :: x141 :: x142 :: x143 :: x144 :: x145 :: x146 :: x147 :: x148 :: x149 :: x150 :: x151 :: x152 :: x153 :: x154 :: x155 :: x156 :: x157 :: x158 :: x159 :: x160 :: x161 :: x162 :: x163 :: x164 :: x165 :: x166 :: x167 :: x168 :: x169 :: x170 :: x171 :: x172 :: x173 :: x174 :: x175 :: x176 :: x177 :: x178 :: x179 :: x180 :: x181 :: x182 :: x183 :: x184 :: x185 :: x186 :: x187 :: x188 :: x189 :: x190 :: x191 :: x192 :: x193 :: x194 :: x195 :: x196 :: x197 :: x198 :: x199 :: x200 :: x201 :: x202 :: x203 :: x204 :: x205 :: x206 :: x207 :: x208 :: x209 :: x210 :: x211 :: x212 :: x213 :: x214 :: x215 :: x216 :: x217 :: x218 :: [])), []⟩ wc := by
  have HRd := Hid.mk' hRd; have HK := Hid.mk' hok
  have HXc : Hid (∀ W {s1 t1 : Sp.St}, RoundAt w.heap.size w W gs gh go gw xb s1 t1 s p → W.cell? ⟨xb, 0, none⟩ = some (.int .i64 p.op) ∧ W.cell? ⟨xb, 1, none⟩ = some (.int .i64 p.id) ∧ W.cell? ⟨xb, 2, none⟩ = some (.int .i64 p.n) ∧ W.cell? ⟨xb, 3, none⟩ = some (.string p.text)) := fun W _ _ hW => by
    obtain ⟨N, hS, _⟩ := hW.side
    exact hS.cells
  obtain ⟨c0, c1, c2, c3⟩ := HXc.out wc hRd
  have HEx := Hid.mk' hexit
  clear hRd hok hexit
  have hsk := fun W => bytes_of (P := Tryd.prog) W p.text 9 37 5 Tryd.underlying9 Tryd.underlying37 Tryd.underlying5
  obtain ⟨cp, hsk1⟩ := Classical.skolem.1 hsk
  obtain ⟨nx, hsk2⟩ := Classical.skolem.1 hsk1
  clear hsk hsk1
  have hcv : ∀ W, (convert 9 37 (.string p.text)).run Tryd.prog W = .ok (.slice (some ⟨W.heap.size, 0, none⟩) p.text.size (cp W)) (nx W) := fun W => (hsk2 W).1
  have HBn : Hid (∀ W, Below W.heap.size W (nx W)) := fun W => (hsk2 W).2.1
  have HIn : Hid (∀ W, IsB (nx W) (some ⟨W.heap.size, 0, none⟩) (cp W) p.text.data.toList) := fun W => (hsk2 W).2.2.2
  clear hsk2
  have hsl : p.text.data.toList.length = p.text.size := by rw [Array.length_toList]; rfl
  have HM1 : Hid (∀ W a bcap, Below wc.heap.size wc W → IsB W (some a) bcap p.text.data.toList → Calls Tryd.prog 11 #[.pointer (some ⟨gs, 0, none⟩), .int .i64 p.id, .int .i64 p.n, .slice (some a) p.text.size bcap] W fun e w' => e = .returned (.int .i64 ((Sp.append s p.id p.n p.text.data.toList).2 : Int)) ∧ RoundAt w.heap.size w w' gs gh go gw xb (Sp.append s p.id p.n p.text.data.toList).1 s s p ∧ (∀ a2 c2, wc.heap.size ≤ a2.block → IsB W (some a2) c2 p.text.data.toList → IsB w' (some a2) c2 p.text.data.toList)) := fun W a bcap hb hI => by
    obtain ⟨S, H, N, hD, hS, hN, hB, ok, hs⟩ := HRd.out
    have hR : RoundAt w.heap.size w W gs gh go gw xb s s s p := HRd.out.stay hb
    have hDW := hD.stay hb
    have hSW := hS.stay hb
    refine (appendU_any s S gs p.id p.n (some a) p.text.size bcap p.text.data.toList W hDW.sp ok.1 hI hsl (by omega)).mono fun e w' hd => ⟨hd.ret, ?_, fun a2 c2 h2 hI2 => hI2.turns hd.turns (fun a3 e3 e4 => ?_)⟩
    · have hsz := hb.size
      refine ⟨_, _, N, hDW.fst (by omega) hd.at_ hd.turns, hSW.turns hd.turns (fun k e => (hN k e).1.1), fun k e => ⟨⟨fun e2 => ?_, (hN k e).1.2⟩, by have := (hN k e).2; have := hd.turns.size; omega⟩, (hB.trans (hb.mono hs)).trans (hd.turns.below (fun k e => (hD.lowS k e).1) (by omega)), ⟨ok.1.append _ _ _, ok.2⟩, by have := hd.turns.size; omega⟩
      rcases e2.1 with e3 | e3
      · exact (hN k e).1.1 e3
      · have := (hN k e).2; omega
    · injection e3 with e3; subst e3
      have := (hD.lowS _ e4).2
      omega
  have HM2 : Hid (∀ W a bcap, RoundAt w.heap.size w W gs gh go gw xb (Sp.append s p.id p.n p.text.data.toList).1 s s p → IsB W (some a) bcap p.text.data.toList → Calls Tryd.prog 12 #[.pointer (some ⟨gh, 0, none⟩), .int .i64 p.id, .int .i64 p.n, .slice (some a) p.text.size bcap] W fun e w' => e = .returned (.int .i64 ((Sp.append s p.id p.n p.text.data.toList).2 : Int)) ∧ RoundAt w.heap.size w w' gs gh go gw xb (Sp.append s p.id p.n p.text.data.toList).1 (Sp.append s p.id p.n p.text.data.toList).1 s p) := fun W a bcap hW hI => hW.held (HK.out.append _ _ _) (fun S h1 ok => appendH_any s S gh p.id p.n (some a) p.text.size bcap p.text.data.toList W h1 ok hI hsl (by omega))
  have HKn : Hid (∀ W, W.cell? ⟨xb, 1, none⟩ = some (.int .i64 p.id) ∧ W.cell? ⟨xb, 2, none⟩ = some (.int .i64 p.n) ∧ W.cell? ⟨xb, 3, none⟩ = some (.string p.text) → (nx W).cell? ⟨xb, 1, none⟩ = some (.int .i64 p.id) ∧ (nx W).cell? ⟨xb, 2, none⟩ = some (.int .i64 p.n) ∧ (nx W).cell? ⟨xb, 3, none⟩ = some (.string p.text)) := fun W h => ⟨((HBn.out W).cell (p := ⟨xb, 1, none⟩) (World.block_lt_of_cell? W _ h.1)).trans h.1, ((HBn.out W).cell (p := ⟨xb, 2, none⟩) (World.block_lt_of_cell? W _ h.2.1)).trans h.2.1, ((HBn.out W).cell (p := ⟨xb, 3, none⟩) (World.block_lt_of_cell? W _ h.2.2)).trans h.2.2⟩
  have HBd : Hid (Below wc.heap.size wc wc.drew) := below_drew _ _
  have HB1 : Hid (Below wc.heap.size wc (nx wc.drew)) := then_ HBd.out (HBn.out _)
  have HB2 : Hid (Below wc.heap.size wc (nx (nx wc.drew))) := then_ HB1.out (HBn.out _)
  have HIa : Hid (IsB (nx wc.drew) (some ⟨wc.heap.size, 0, none⟩) (cp wc.drew) p.text.data.toList) := HIn.out wc.drew
  have HIb : Hid (IsB (nx (nx wc.drew)) (some ⟨wc.heap.size, 0, none⟩) (cp wc.drew) p.text.data.toList) := (HIn.out wc.drew).stay (HBn.out (nx wc.drew))
  have HIc : Hid (IsB (nx (nx wc.drew)) (some ⟨(nx wc.drew).heap.size, 0, none⟩) (cp (nx wc.drew)) p.text.data.toList) := HIn.out (nx wc.drew)
  have hz0 : Hid (wc.heap.size ≤ wc.heap.size ∧ wc.heap.size ≤ (nx wc.drew).heap.size) := ⟨Nat.le_refl _, HB1.out.size⟩
  clear hsl
  generalize Sp.append s p.id p.n p.text.data.toList = r at *
  generalize p.text.data.toList = tx at *
  conv => arg 2; whnf
  refine wp_region_noPanic ?_
  go_region_held (fun w' => w'.cell? ⟨xb, 1, none⟩ = some (.int .i64 p.id) ∧ w'.cell? ⟨xb, 2, none⟩ = some (.int .i64 p.n) ∧ w'.cell? ⟨xb, 3, none⟩ = some (.string p.text)) (first | go_keep | exact HKw.out | exact HKn.out _ (by assumption) | exact HKn.out _ HKw.out) (first
    | (go_at_call 11; refine (HM1.out _ _ _ (by first | with_reducible exact HB1.out | with_reducible exact HB2.out) (by first | with_reducible exact HIa.out | with_reducible exact HIb.out | with_reducible exact HIc.out)).mono ?_; rintro e w6 ⟨rfl, hr6, hk6⟩; have HKw := Hid.mk' (HXc.out w6 hr6).2; have HR6 := Hid.mk' hr6; have HK6 := Hid.mk' hk6; have HRn := Hid.mk' (hr6.stay (HBn.out w6)); have HIw := Hid.mk' (HIn.out w6); clear hr6 hk6)
    | (go_at_call 12; refine (HM2.out _ _ _ (by first | with_reducible exact HR6.out | with_reducible exact HRn.out) (by first | with_reducible exact HIw.out | with_reducible exact HK6.out _ _ hz0.out.2 HIc.out | with_reducible exact HK6.out _ _ hz0.out.1 HIb.out)).mono ?_; rintro e w7 ⟨rfl, hr7⟩; have HKw := Hid.mk' (HXc.out w7 hr7).2; have HR7 := Hid.mk' hr7; clear hr7))
  all_goals refine NoPanic.normal ?_
  all_goals exact HEx.out _ _ _ _ _ _ _ _ _ _ _ _ _ _ _ _ _ _ _ HR7.out
end Go.Proofs.YtankilclhknbkaaDoor

/- SpoolDoes: the switch over what a step asks, walked. -/
namespace Go.Proofs.YtankilclhknbkaaDoor
open Go.RowKit

set_option maxRecDepth 100000 in
set_option maxHeartbeats 20000000 in
theorem spSwitch_any (w wc : World) (gs gh go gw xb i : Nat) (s : Sp.St) (p : Stp) (hRd : RoundAt w.heap.size w wc gs gh go gw xb s s s p) (hok : Sp.Ok s) (htx : p.text.size ≤ 20000) (hla : s.last ≤ i) (hi2 : i ≤ 200) (Q0 : Exit → Act → World → Prop)
    (x0 x1 x2 x5 x7 x8 x11 x12 x13 x14 x15 x16 x17 x18 x19 x20 x21 x22 x23 x24 x25 x26 x27 x28 x29 x30 x31 x32 x33 x34 x35 x36 x37 x39 x40 x41 x42 x43 x44 x45 x46 x47 x48 x49 x50 x51 x52 x53 x54 x55 x56 x57 x58 x59 x60 x61 x62 x63 x64 x65 x66 x67 x68 x69 x70 x71 x72 x73 x74 x75 x76 x77 x78 x79 x80 x81 x82 x83 x84 x85 x86 x87 x88 x89 x90 x91 x92 x93 x94 x95 x96 x97 x98 x99 x100 x101 x102 x103 x104 x105 x106 x107 x108 x109 x110 x111 x112 x113 x114 x115 x116 x117 x118 x119 x120 x121 x122 x123 x124 x125 x126 x127 x128 x129 x130 x131 x132 x133 x134 x135 x136 x137 x138 x139 x140 x141 x142 x143 x144 x145 x146 x147 x148 x149 x150 x151 x152 x153 x154 x155 x156 x157 x158 x159 x160 x161 x162 x163 x164 x165 x166 x167 x168 x169 x170 x171 x172 x173 x174 x175 x176 x177 x178 x179 x180 x181 x182 x183 x184 x185 x186 x187 x188 x189 x190 x191 x192 x193 x194 x195 x196 x197 x198 x199 x200 x201 x202 x203 x204 x205 x206 x207 x208 x209 x210 x211 x212 x213 x214 x215 x216 x217 x218 : Value)
    (hexit : ∀ (w' : World) (s' : Sp.St) (c : Nat) (y11 y12 y38 y39 y40 y41 y42 y43 y44 y45 y46 y47 y48 y49 y50 y51 y52 y53 y54 y55 y56 y57 y58 y59 y60 y61 y62 y63 y64 y65 y66 y67 y68 y69 y70 y71 y72 y73 y74 y75 y76 y77 y78 y79 y80 y81 y82 y83 y84 y85 y86 y87 y88 y89 y90 y91 y92 y93 y94 y95 y96 y97 y98 y99 y100 y101 y102 y103 y104 y105 y106 y107 y108 y109 y110 y111 y112 y113 y114 y115 y116 y117 y118 y119 y120 y121 y122 y123 y124 y125 : Value), RoundAt w.heap.size w w' gs gh go gw xb s' s' s p → s'.last ≤ i + 1 → Q0 .normal ⟨(List.toArray (x0 :: x1 :: x2 :: (.pointer (some ⟨gs, 0, none⟩)) :: (.pointer (some ⟨gh, 0, none⟩)) :: x5 :: (.pointer (some ⟨xb, 0, none⟩)) :: x7 :: x8 :: (.int .i64 (c : Int)) :: (.int .i64 (c : Int)) :: (y11) :: (y12) :: x13 :: x14 :: x15 :: x16 :: x17 :: x18 :: x19 :: x20 :: x21 :: x22 :: x23 :: x24 :: x25 :: x26 :: x27 :: x28 :: x29 :: x30 :: x31 :: x32 :: x33 :: x34 :: x35 :: x36 :: x37 :: (y38) :: (y39) :: (y40) :: (y41) :: (y42) :: (y43) :: (y44) :: (y45) :: (y46) :: (y47) :: (y48) :: (y49) :: (y50) :: (y51) :: (y52) :: (y53) :: (y54) :: (y55) :: (y56) :: (y57) :: (y58) :: (y59) :: (y60) :: (y61) :: (y62) :: (y63) :: (y64) :: (y65) :: (y66) :: (y67) :: (y68) :: (y69) :: (y70) :: (y71) :: (y72) :: (y73) :: (y74) :: (y75) :: (y76) :: (y77) :: (y78) :: (y79) :: (y80) :: (y81) :: (y82) :: (y83) :: (y84) :: (y85) :: (y86) :: (y87) :: (y88) :: (y89) :: (y90) :: (y91) :: (y92) :: (y93) :: (y94) :: (y95) :: (y96) :: (y97) :: (y98) :: (y99) :: (y100) :: (y101) :: (y102) :: (y103) :: (y104) :: (y105) :: (y106) :: (y107) :: (y108) :: (y109) :: (y110) :: (y111) :: (y112) :: (y113) :: (y114) :: (y115) :: (y116) :: (y117) :: (y118) :: (y119) :: (y120) :: (y121) :: (y122) :: (y123) :: (y124) :: (y125) :: x126 :: x127 :: x128 :: x129 :: x130 :: x131 :: x132 :: x133 :: x134 :: x135 :: x136 :: x137 :: x138 :: x139 :: x140 :: x141 :: x142 :: x143 :: x144 :: x145 :: x146 :: x147 :: x148 :: x149 :: x150 :: x151 :: x152 :: x153 :: x154 :: x155 :: x156 :: x157 :: x158 :: x159 :: x160 :: x161 :: x162 :: x163 :: x164 :: x165 :: x166 :: x167 :: x168 :: x169 :: x170 :: x171 :: x172 :: x173 :: x174 :: x175 :: x176 :: x177 :: x178 :: x179 :: x180 :: x181 :: x182 :: x183 :: x184 :: x185 :: x186 :: x187 :: x188 :: x189 :: x190 :: x191 :: x192 :: x193 :: x194 :: x195 :: x196 :: x197 :: x198 :: x199 :: x200 :: x201 :: x202 :: x203 :: x204 :: x205 :: x206 :: x207 :: x208 :: x209 :: x210 :: x211 :: x212 :: x213 :: x214 :: x215 :: x216 :: x217 :: x218 :: [])), []⟩ w') :
    Code.wp Tryd.prog spSwitch Q0 ⟨(List.toArray (x0 :: x1 :: x2 :: (.pointer (some ⟨gs, 0, none⟩)) :: (.pointer (some ⟨gh, 0, none⟩)) :: x5 :: (.pointer (some ⟨xb, 0, none⟩)) :: x7 :: x8 :: (.int .i64 0) :: (.int .i64 0) :: x11 :: x12 :: x13 :: x14 :: x15 :: x16 :: x17 :: x18 :: x19 :: x20 :: x21 :: x22 :: x23 :: x24 :: x25 :: x26 :: x27 :: x28 :: x29 :: x30 :: x31 :: x32 :: x33 :: x34 :: x35 :: x36 :: x37 :: (.int .i64 p.op) :: x39 :: x40 :: x41 :: x42 :: x43 :: x44 :: x45 :: x46 :: x47 :: x48 :: x49 :: x50 :: x51 :: x52 :: x53 :: x54 :: x55 :: x56 :: x57 :: x58 :: x59 :: x60 :: x61 :: x62 :: x63 :: x64 :: x65 :: x66 :: x67 :: x68 :: x69 :: x70 :: x71 :: x72 :: x73 :: x74 :: x75 :: x76 :: x77 :: x78 :: x79 :: x80 :: x81 :: x82 :: x83 :: x84 :: x85 :: x86 :: x87 :: x88 :: x89 :: x90 :: x91 :: x92 :: x93 :: x94 :: x95 :: x96 :: x97 :: x98 :: x99 :: x100 :: x101 :: x102 :: x103 :: x104 :: x105 :: x106 :: x107 :: x108 :: x109 :: x110 :: x111 :: x112 :: x113 :: x114 :: x115 :: x116 :: x117 :: x118 :: x119 :: x120 :: x121 :: x122 :: x123 :: x124 :: x125 :: x126 :: x127 :: x128 :: x129 :: x130 :: x131 :: x132 :: x133 :: x134 :: x135 :: x136 :: x137 :: x138 :: x139 :: x140 :: x141 :: x142 :: x143 :: x144 :: x145 :: x146 :: x147 :: x148 :: x149 :: x150 :: x151 :: x152 :: x153 :: x154 :: x155 :: x156 :: x157 :: x158 :: x159 :: x160 :: x161 :: x162 :: x163 :: x164 :: x165 :: x166 :: x167 :: x168 :: x169 :: x170 :: x171 :: x172 :: x173 :: x174 :: x175 :: x176 :: x177 :: x178 :: x179 :: x180 :: x181 :: x182 :: x183 :: x184 :: x185 :: x186 :: x187 :: x188 :: x189 :: x190 :: x191 :: x192 :: x193 :: x194 :: x195 :: x196 :: x197 :: x198 :: x199 :: x200 :: x201 :: x202 :: x203 :: x204 :: x205 :: x206 :: x207 :: x208 :: x209 :: x210 :: x211 :: x212 :: x213 :: x214 :: x215 :: x216 :: x217 :: x218 :: [])), []⟩ wc := by
  have HRd := Hid.mk' hRd; have HK := Hid.mk' hok
  have hl0 := hok.last0
  have HXc : Hid (∀ W {s1 t1 : Sp.St}, RoundAt w.heap.size w W gs gh go gw xb s1 t1 s p → W.cell? ⟨xb, 0, none⟩ = some (.int .i64 p.op) ∧ W.cell? ⟨xb, 1, none⟩ = some (.int .i64 p.id) ∧ W.cell? ⟨xb, 2, none⟩ = some (.int .i64 p.n) ∧ W.cell? ⟨xb, 3, none⟩ = some (.string p.text)) := fun W _ _ hW => by
    obtain ⟨N, hS, _⟩ := hW.side
    exact hS.cells
  obtain ⟨c0, c1, c2, c3⟩ := HXc.out wc hRd
  have HEx := Hid.mk' hexit
  clear hRd hok hexit
  conv => arg 2; whnf
  by_cases o0 : p.op = 0
  · have HM1 : Hid (∀ W, RoundAt w.heap.size w W gs gh go gw xb s s s p → Calls Tryd.prog 9 #[.pointer (some ⟨gs, 0, none⟩), .int .i64 p.n, .string p.text] W fun e w' => e = .returned (.tuple #[.int .i64 (Sp.create s p.n p.text).2.1, .int .i64 ((Sp.create s p.n p.text).2.2 : Int)]) ∧ RoundAt w.heap.size w w' gs gh go gw xb (Sp.create s p.n p.text).1 s s p) := fun W hW => by
      obtain ⟨S, h1, ok, hK⟩ := hW.fst
      exact (createU_any s S gs p.n p.text W h1 ok (by omega) (by omega)).mono fun e w' hd => ⟨hd.ret, hK w' _ hd.at_ hd.turns (HK.out.create _ _)⟩
    have HM2 : Hid (∀ W, RoundAt w.heap.size w W gs gh go gw xb (Sp.create s p.n p.text).1 s s p → Calls Tryd.prog 10 #[.pointer (some ⟨gh, 0, none⟩), .int .i64 p.n, .string p.text] W fun e w' => e = .returned (.tuple #[.int .i64 (Sp.create s p.n p.text).2.1, .int .i64 ((Sp.create s p.n p.text).2.2 : Int)]) ∧ RoundAt w.heap.size w w' gs gh go gw xb (Sp.create s p.n p.text).1 (Sp.create s p.n p.text).1 s p) := fun W hW => by
      obtain ⟨S, h1, ok, hK⟩ := hW.snd
      exact (createH_any s S gh p.n p.text W h1 ok (by omega) (by omega)).mono fun e w' hd => ⟨hd.ret, hK w' _ hd.at_ hd.turns (HK.out.create _ _)⟩
    have hlb : (Sp.create s p.n p.text).1.last ≤ i + 1 := by have := Sp.last_le_create s p.n p.text; omega
    have HLa := Hid.mk' hlb
    clear hlb
    generalize Sp.create s p.n p.text = r at *
    obtain ⟨rs, rid, rc⟩ := r
    go_wp2_with (first
      | (go_at_call 9; refine (HM1.out _ HRd.out).mono ?_; rintro e w6 ⟨rfl, hr6⟩; obtain ⟨f0, f1, f2, f3⟩ := HXc.out w6 hr6; have HR6 := Hid.mk' hr6; clear hr6)
      | (go_at_call 10; refine (HM2.out _ HR6.out).mono ?_; rintro e w7 ⟨rfl, hr7⟩; have HR7 := Hid.mk' hr7; clear hr7))
    exact HEx.out _ (rs) (rc) _ _ _ _ _ _ _ _ _ _ _ _ _ _ _ _ _ _ _ _ _ _ _ _ _ _ _ _ _ _ _ _ _ _ _ _ _ _ _ _ _ _ _ _ _ _ _ _ _ _ _ _ _ _ _ _ _ _ _ _ _ _ _ _ _ _ _ _ _ _ _ _ _ _ _ _ _ _ _ _ _ _ _ _ _ _ _ _ _ _ HR7.out (HLa.out)
  · by_cases o1 : p.op = 1
    · have hlb : (Sp.append s p.id p.n p.text.data.toList).1.last ≤ i + 1 := by rw [Sp.last_append]; omega
      have HLa := Hid.mk' hlb
      have HAp := Hid.mk' (spApp_any w wc gs gh go gw xb s p HRd.out HK.out htx)
      clear hlb
      go_wp2_with fail
      refine HAp.out _ _ _ _ _ _ _ _ _ _ _ _ _ _ _ _ _ _ _ _ _ _ _ _ _ _ _ _ _ _ _ _ _ _ _ _ _ _ _ _ _ _ _ _ _ _ _ _ _ _ _ _ _ _ _ _ _ _ _ _ _ _ _ _ _ _ _ _ _ _ _ _ _ _ _ _ _ _ _ _ _ _ _ _ _ _ _ _ _ _ _ _ _ _ _ _ _ _ _ _ _ _ _ _ _ _ _ _ _ _ _ _ _ _ _ _ _ _ _ _ _ _ _ _ _ _ _ _ _ _ _ _ _ _ _ _ _ _ _ _ _ _ _ _ _ _ _ _ _ _ _ _ _ _ _ _ _ _ _ _ _ _ _ _ _ _ _ _ _ _ _ _ _ _ _ _ _ _ _ _ _ _ _ _ _ _ _ _ _ _ _ _ _ _ _ _ _ _ _ _ _ _ _ _ _ _ _ _ _ _ _ _ _ _ _ _ _ (fun w6 y64 y65 y66 y67 y68 y69 y70 y71 y72 y73 y74 y75 y76 y77 y78 y79 y80 y81 hr6 => ?_)
      have HR7 := Hid.mk' hr6
      clear hr6 HAp
      generalize Sp.append s p.id p.n p.text.data.toList = r at *
      go_wp2
      exact HEx.out _ (r.1) (r.2) _ _ _ _ _ _ _ _ _ _ _ _ _ _ _ _ _ _ _ _ _ _ _ _ _ _ _ _ _ _ _ _ _ _ _ _ _ _ _ _ _ _ _ _ _ _ _ _ _ _ _ _ _ _ _ _ _ _ _ _ _ _ _ _ _ _ _ _ _ _ _ _ _ _ _ _ _ _ _ _ _ _ _ _ _ _ _ _ _ _ HR7.out (HLa.out)
    · by_cases o2 : p.op = 2
      · have HM1 : Hid (∀ W, RoundAt w.heap.size w W gs gh go gw xb s s s p → Calls Tryd.prog 13 #[.pointer (some ⟨gs, 0, none⟩), .int .i64 p.id, .int .i64 p.n] W fun e w' => e = .returned (.int .i64 ((Sp.declare s p.id p.n).2 : Int)) ∧ RoundAt w.heap.size w w' gs gh go gw xb (Sp.declare s p.id p.n).1 s s p) := fun W hW => hW.did (HK.out.declare _ _) (fun S h1 ok => declareU_any s S gs p.id p.n W h1 ok)
        have HM2 : Hid (∀ W, RoundAt w.heap.size w W gs gh go gw xb (Sp.declare s p.id p.n).1 s s p → Calls Tryd.prog 14 #[.pointer (some ⟨gh, 0, none⟩), .int .i64 p.id, .int .i64 p.n] W fun e w' => e = .returned (.int .i64 ((Sp.declare s p.id p.n).2 : Int)) ∧ RoundAt w.heap.size w w' gs gh go gw xb (Sp.declare s p.id p.n).1 (Sp.declare s p.id p.n).1 s p) := fun W hW => hW.held (HK.out.declare _ _) (fun S h1 ok => declareH_any s S gh p.id p.n W h1 ok)
        have hlb : (Sp.declare s p.id p.n).1.last ≤ i + 1 := by rw [Sp.last_declare]; omega
        have HLa := Hid.mk' hlb
        clear hlb
        generalize Sp.declare s p.id p.n = r at *
        go_wp2_with fail
        go_region_held3 (fun w' => w'.cell? ⟨xb, 1, none⟩ = some (.int .i64 p.id) ∧ w'.cell? ⟨xb, 2, none⟩ = some (.int .i64 p.n)) (go_keep) (first
          | (go_at_call 13; refine (HM1.out _ (HRd.out.stay (below_drew _ _))).mono ?_; rintro e w6 ⟨rfl, hr6⟩; obtain ⟨f0, f1, f2, f3⟩ := HXc.out w6 hr6; have HR6 := Hid.mk' hr6; clear hr6)
          | (go_at_call 14; refine (HM2.out _ HR6.out).mono ?_; rintro e w7 ⟨rfl, hr7⟩; obtain ⟨j0, j1, j2, j3⟩ := HXc.out w7 hr7; have HR7 := Hid.mk' hr7; clear hr7))
        all_goals
          go_wp2
          exact HEx.out _ (r.1) (r.2) _ _ _ _ _ _ _ _ _ _ _ _ _ _ _ _ _ _ _ _ _ _ _ _ _ _ _ _ _ _ _ _ _ _ _ _ _ _ _ _ _ _ _ _ _ _ _ _ _ _ _ _ _ _ _ _ _ _ _ _ _ _ _ _ _ _ _ _ _ _ _ _ _ _ _ _ _ _ _ _ _ _ _ _ _ _ _ _ _ _ HR7.out (HLa.out)
      · by_cases o3 : p.op = 3
        · have HM1 : Hid (∀ W, RoundAt w.heap.size w W gs gh go gw xb s s s p → Calls Tryd.prog 15 #[.pointer (some ⟨gs, 0, none⟩), .int .i64 p.id] W fun e w' => e = .returned (.int .i64 ((Sp.drop s p.id).2 : Int)) ∧ RoundAt w.heap.size w w' gs gh go gw xb (Sp.drop s p.id).1 s s p) := fun W hW => hW.did (HK.out.drop _) (fun S h1 ok => dropU_any s S gs p.id W h1 ok)
          have HM2 : Hid (∀ W, RoundAt w.heap.size w W gs gh go gw xb (Sp.drop s p.id).1 s s p → Calls Tryd.prog 16 #[.pointer (some ⟨gh, 0, none⟩), .int .i64 p.id] W fun e w' => e = .returned (.int .i64 ((Sp.drop s p.id).2 : Int)) ∧ RoundAt w.heap.size w w' gs gh go gw xb (Sp.drop s p.id).1 (Sp.drop s p.id).1 s p) := fun W hW => hW.held (HK.out.drop _) (fun S h1 ok => dropH_any s S gh p.id W h1 ok)
          have hlb : (Sp.drop s p.id).1.last ≤ i + 1 := by rw [Sp.last_drop]; omega
          have HLa := Hid.mk' hlb
          clear hlb
          generalize Sp.drop s p.id = r at *
          go_wp2_with fail
          go_region_held3 (fun w' => w'.cell? ⟨xb, 1, none⟩ = some (.int .i64 p.id)) (go_keep) (first
            | (go_at_call 15; refine (HM1.out _ (HRd.out.stay (below_drew _ _))).mono ?_; rintro e w6 ⟨rfl, hr6⟩; obtain ⟨f0, f1, f2, f3⟩ := HXc.out w6 hr6; have HR6 := Hid.mk' hr6; clear hr6)
            | (go_at_call 16; refine (HM2.out _ HR6.out).mono ?_; rintro e w7 ⟨rfl, hr7⟩; obtain ⟨j0, j1, j2, j3⟩ := HXc.out w7 hr7; have HR7 := Hid.mk' hr7; clear hr7))
          all_goals
            go_wp2
            exact HEx.out _ (r.1) (r.2) _ _ _ _ _ _ _ _ _ _ _ _ _ _ _ _ _ _ _ _ _ _ _ _ _ _ _ _ _ _ _ _ _ _ _ _ _ _ _ _ _ _ _ _ _ _ _ _ _ _ _ _ _ _ _ _ _ _ _ _ _ _ _ _ _ _ _ _ _ _ _ _ _ _ _ _ _ _ _ _ _ _ _ _ _ _ _ _ _ _ HR7.out (HLa.out)
        · by_cases o4 : p.op = 4
          · have HM1 : Hid (∀ W, RoundAt w.heap.size w W gs gh go gw xb s s s p → Calls Tryd.prog 17 #[.pointer (some ⟨gs, 0, none⟩), .int .i64 p.id] W fun e w' => e = .returned (.int .i64 ((Sp.begins s p.id).2 : Int)) ∧ RoundAt w.heap.size w w' gs gh go gw xb (Sp.begins s p.id).1 s s p) := fun W hW => hW.did (HK.out.begins _) (fun S h1 ok => beginU_any s S gs p.id W h1 ok)
            have HM2 : Hid (∀ W, RoundAt w.heap.size w W gs gh go gw xb (Sp.begins s p.id).1 s s p → Calls Tryd.prog 18 #[.pointer (some ⟨gh, 0, none⟩), .int .i64 p.id] W fun e w' => e = .returned (.int .i64 ((Sp.begins s p.id).2 : Int)) ∧ RoundAt w.heap.size w w' gs gh go gw xb (Sp.begins s p.id).1 (Sp.begins s p.id).1 s p) := fun W hW => hW.held (HK.out.begins _) (fun S h1 ok => beginH_any s S gh p.id W h1 ok)
            have hlb : (Sp.begins s p.id).1.last ≤ i + 1 := by rw [Sp.last_begins]; omega
            have HLa := Hid.mk' hlb
            clear hlb
            generalize Sp.begins s p.id = r at *
            go_wp2_with fail
            go_region_held3 (fun w' => w'.cell? ⟨xb, 1, none⟩ = some (.int .i64 p.id)) (go_keep) (first
              | (go_at_call 17; refine (HM1.out _ (HRd.out.stay (below_drew _ _))).mono ?_; rintro e w6 ⟨rfl, hr6⟩; obtain ⟨f0, f1, f2, f3⟩ := HXc.out w6 hr6; have HR6 := Hid.mk' hr6; clear hr6)
              | (go_at_call 18; refine (HM2.out _ HR6.out).mono ?_; rintro e w7 ⟨rfl, hr7⟩; obtain ⟨j0, j1, j2, j3⟩ := HXc.out w7 hr7; have HR7 := Hid.mk' hr7; clear hr7))
            all_goals
              go_wp2
              exact HEx.out _ (r.1) (r.2) _ _ _ _ _ _ _ _ _ _ _ _ _ _ _ _ _ _ _ _ _ _ _ _ _ _ _ _ _ _ _ _ _ _ _ _ _ _ _ _ _ _ _ _ _ _ _ _ _ _ _ _ _ _ _ _ _ _ _ _ _ _ _ _ _ _ _ _ _ _ _ _ _ _ _ _ _ _ _ _ _ _ _ _ _ _ _ _ _ _ HR7.out (HLa.out)
          · by_cases o5 : p.op = 5
            · have HM1 : Hid (∀ W, RoundAt w.heap.size w W gs gh go gw xb s s s p → Calls Tryd.prog 19 #[.pointer (some ⟨gs, 0, none⟩), .int .i64 p.id] W fun e w' => e = .returned (.int .i64 ((Sp.ends s p.id).2 : Int)) ∧ RoundAt w.heap.size w w' gs gh go gw xb (Sp.ends s p.id).1 s s p) := fun W hW => hW.did (HK.out.ends _) (fun S h1 ok => endU_any s S gs p.id W h1 ok)
              have HM2 : Hid (∀ W, RoundAt w.heap.size w W gs gh go gw xb (Sp.ends s p.id).1 s s p → Calls Tryd.prog 20 #[.pointer (some ⟨gh, 0, none⟩), .int .i64 p.id] W fun e w' => e = .returned (.int .i64 ((Sp.ends s p.id).2 : Int)) ∧ RoundAt w.heap.size w w' gs gh go gw xb (Sp.ends s p.id).1 (Sp.ends s p.id).1 s p) := fun W hW => hW.held (HK.out.ends _) (fun S h1 ok => endH_any s S gh p.id W h1 ok)
              have hlb : (Sp.ends s p.id).1.last ≤ i + 1 := by rw [Sp.last_ends]; omega
              have HLa := Hid.mk' hlb
              clear hlb
              generalize Sp.ends s p.id = r at *
              go_wp2_with fail
              go_region_held3 (fun w' => w'.cell? ⟨xb, 1, none⟩ = some (.int .i64 p.id)) (go_keep) (first
                | (go_at_call 19; refine (HM1.out _ (HRd.out.stay (below_drew _ _))).mono ?_; rintro e w6 ⟨rfl, hr6⟩; obtain ⟨f0, f1, f2, f3⟩ := HXc.out w6 hr6; have HR6 := Hid.mk' hr6; clear hr6)
                | (go_at_call 20; refine (HM2.out _ HR6.out).mono ?_; rintro e w7 ⟨rfl, hr7⟩; obtain ⟨j0, j1, j2, j3⟩ := HXc.out w7 hr7; have HR7 := Hid.mk' hr7; clear hr7))
              all_goals
                go_wp2
                exact HEx.out _ (r.1) (r.2) _ _ _ _ _ _ _ _ _ _ _ _ _ _ _ _ _ _ _ _ _ _ _ _ _ _ _ _ _ _ _ _ _ _ _ _ _ _ _ _ _ _ _ _ _ _ _ _ _ _ _ _ _ _ _ _ _ _ _ _ _ _ _ _ _ _ _ _ _ _ _ _ _ _ _ _ _ _ _ _ _ _ _ _ _ _ _ _ _ _ HR7.out (HLa.out)
            · go_wp2
              exact HEx.out _ (s) (0) _ _ _ _ _ _ _ _ _ _ _ _ _ _ _ _ _ _ _ _ _ _ _ _ _ _ _ _ _ _ _ _ _ _ _ _ _ _ _ _ _ _ _ _ _ _ _ _ _ _ _ _ _ _ _ _ _ _ _ _ _ _ _ _ _ _ _ _ _ _ _ _ _ _ _ _ _ _ _ _ _ _ _ _ _ _ _ _ _ _ HRd.out (by omega)
end Go.Proofs.YtankilclhknbkaaDoor

/- SpoolDoes: the region of the last test, walked. -/
namespace Go.Proofs.YtankilclhknbkaaDoor
open Go.RowKit

set_option maxRecDepth 100000 in
set_option maxHeartbeats 20000000 in
theorem spLast_any (v2 : World) (gh ub gu k ln ch2 : Nat) (u : Sp.Up) (ba : Option Addr) (bc : Nat)
    (hro : v2.heap[ub]? = some (.cells #[.int .i64 u.id, .int .i64 u.size, .string u.note, .slice ba u.bytes.length bc, .int .i64 u.sent] 44 (0, 0))) (hIv : IsB v2 ba bc u.bytes) (hgc : v2.cell? ⟨gh, 0, none⟩ = some (.slice (some ⟨gu, 0, none⟩) ln ch2))
    (hIn : ∀ W, Below v2.heap.size v2 W → IsUps W (some ⟨gu, k * 5, none⟩) (ch2 - k) [u]) (hk : k < ln) (hfew : ln ≤ 1000000) (hchk : ln ≤ ch2) (Q0 : Exit → Act → World → Prop)
    (x0 x1 x2 x3 x5 x6 x7 x8 x9 x10 x11 x12 x16 x17 x18 x19 x20 x21 x22 x23 x24 x25 x26 x27 x28 x29 x30 x31 x32 x33 x34 x35 x36 x37 x38 x39 x40 x41 x42 x43 x44 x45 x46 x47 x48 x49 x50 x51 x52 x53 x54 x55 x56 x57 x58 x59 x60 x61 x62 x63 x64 x65 x66 x67 x68 x69 x70 x71 x72 x73 x74 x75 x76 x77 x78 x79 x80 x81 x82 x83 x84 x85 x86 x87 x88 x89 x90 x91 x92 x93 x94 x95 x96 x97 x98 x99 x100 x101 x102 x103 x104 x105 x106 x107 x108 x109 x110 x111 x112 x113 x114 x115 x116 x117 x118 x119 x120 x121 x122 x123 x124 x125 x126 x127 x128 x129 x130 x131 x132 x133 x134 x135 x136 x137 x138 x139 x140 x141 x142 x143 x144 x145 x146 x147 x148 x149 x150 x151 x152 x153 x154 x155 x156 x157 x158 x159 x160 x161 x162 x163 x164 x165 x166 x167 x168 x169 x170 x171 x172 x173 x174 x175 x176 x177 x178 x179 x180 x181 x182 x183 x184 x185 x186 x187 x188 x189 x190 x191 x192 x193 x194 x195 x196 x197 x198 x199 x200 x201 x202 x203 x204 x205 x206 x207 x208 x209 x210 x211 x212 x213 x214 x215 x216 x217 x218 : Value)
    (hexit : ∀ (w' : World) (y187 y188 y189 y190 y191 y192 y193 y194 y195 y196 y197 y198 y199 y200 y201 y202 y203 y204 y205 y206 y207 y208 y209 y210 y211 y212 y213 y214 y215 y216 y217 : Value), Below v2.heap.size v2 w' → Q0 .normal ⟨(List.toArray (x0 :: x1 :: x2 :: x3 :: (.pointer (some ⟨gh, 0, none⟩)) :: x5 :: x6 :: x7 :: x8 :: x9 :: x10 :: x11 :: x12 :: (.pointer (some ⟨ub, 0, none⟩)) :: (.bool true) :: (.int .i64 (k : Int)) :: x16 :: x17 :: x18 :: x19 :: x20 :: x21 :: x22 :: x23 :: x24 :: x25 :: x26 :: x27 :: x28 :: x29 :: x30 :: x31 :: x32 :: x33 :: x34 :: x35 :: x36 :: x37 :: x38 :: x39 :: x40 :: x41 :: x42 :: x43 :: x44 :: x45 :: x46 :: x47 :: x48 :: x49 :: x50 :: x51 :: x52 :: x53 :: x54 :: x55 :: x56 :: x57 :: x58 :: x59 :: x60 :: x61 :: x62 :: x63 :: x64 :: x65 :: x66 :: x67 :: x68 :: x69 :: x70 :: x71 :: x72 :: x73 :: x74 :: x75 :: x76 :: x77 :: x78 :: x79 :: x80 :: x81 :: x82 :: x83 :: x84 :: x85 :: x86 :: x87 :: x88 :: x89 :: x90 :: x91 :: x92 :: x93 :: x94 :: x95 :: x96 :: x97 :: x98 :: x99 :: x100 :: x101 :: x102 :: x103 :: x104 :: x105 :: x106 :: x107 :: x108 :: x109 :: x110 :: x111 :: x112 :: x113 :: x114 :: x115 :: x116 :: x117 :: x118 :: x119 :: x120 :: x121 :: x122 :: x123 :: x124 :: x125 :: x126 :: x127 :: x128 :: x129 :: x130 :: x131 :: x132 :: x133 :: x134 :: x135 :: x136 :: x137 :: x138 :: x139 :: x140 :: x141 :: x142 :: x143 :: x144 :: x145 :: x146 :: x147 :: x148 :: x149 :: x150 :: x151 :: x152 :: x153 :: x154 :: x155 :: x156 :: x157 :: x158 :: x159 :: x160 :: x161 :: x162 :: x163 :: x164 :: x165 :: x166 :: x167 :: x168 :: x169 :: x170 :: x171 :: x172 :: x173 :: x174 :: x175 :: x176 :: x177 :: x178 :: x179 :: x180 :: x181 :: x182 :: x183 :: x184 :: x185 :: x186 :: (y187) :: (y188) :: (y189) :: (y190) :: (y191) :: (y192) :: (y193) :: (y194) :: (y195) :: (y196) :: (y197) :: (y198) :: (y199) :: (y200) :: (y201) :: (y202) :: (y203) :: (y204) :: (y205) :: (y206) :: (y207) :: (y208) :: (y209) :: (y210) :: (y211) :: (y212) :: (y213) :: (y214) :: (y215) :: (y216) :: (y217) :: (.bool false) :: [])), []⟩ w') :
    Code.wp Tryd.prog spLast Q0 ⟨(List.toArray (x0 :: x1 :: x2 :: x3 :: (.pointer (some ⟨gh, 0, none⟩)) :: x5 :: x6 :: x7 :: x8 :: x9 :: x10 :: x11 :: x12 :: (.pointer (some ⟨ub, 0, none⟩)) :: (.bool true) :: (.int .i64 (k : Int)) :: x16 :: x17 :: x18 :: x19 :: x20 :: x21 :: x22 :: x23 :: x24 :: x25 :: x26 :: x27 :: x28 :: x29 :: x30 :: x31 :: x32 :: x33 :: x34 :: x35 :: x36 :: x37 :: x38 :: x39 :: x40 :: x41 :: x42 :: x43 :: x44 :: x45 :: x46 :: x47 :: x48 :: x49 :: x50 :: x51 :: x52 :: x53 :: x54 :: x55 :: x56 :: x57 :: x58 :: x59 :: x60 :: x61 :: x62 :: x63 :: x64 :: x65 :: x66 :: x67 :: x68 :: x69 :: x70 :: x71 :: x72 :: x73 :: x74 :: x75 :: x76 :: x77 :: x78 :: x79 :: x80 :: x81 :: x82 :: x83 :: x84 :: x85 :: x86 :: x87 :: x88 :: x89 :: x90 :: x91 :: x92 :: x93 :: x94 :: x95 :: x96 :: x97 :: x98 :: x99 :: x100 :: x101 :: x102 :: x103 :: x104 :: x105 :: x106 :: x107 :: x108 :: x109 :: x110 :: x111 :: x112 :: x113 :: x114 :: x115 :: x116 :: x117 :: x118 :: x119 :: x120 :: x121 :: x122 :: x123 :: x124 :: x125 :: x126 :: x127 :: x128 :: x129 :: x130 :: x131 :: x132 :: x133 :: x134 :: x135 :: x136 :: x137 :: x138 :: x139 :: x140 :: x141 :: x142 :: x143 :: x144 :: x145 :: x146 :: x147 :: x148 :: x149 :: x150 :: x151 :: x152 :: x153 :: x154 :: x155 :: x156 :: x157 :: x158 :: x159 :: x160 :: x161 :: x162 :: x163 :: x164 :: x165 :: x166 :: x167 :: x168 :: x169 :: x170 :: x171 :: x172 :: x173 :: x174 :: x175 :: x176 :: x177 :: x178 :: x179 :: x180 :: x181 :: x182 :: x183 :: x184 :: x185 :: x186 :: x187 :: x188 :: x189 :: x190 :: x191 :: x192 :: x193 :: x194 :: x195 :: x196 :: x197 :: x198 :: x199 :: x200 :: x201 :: x202 :: x203 :: x204 :: x205 :: x206 :: x207 :: x208 :: x209 :: x210 :: x211 :: x212 :: x213 :: x214 :: x215 :: x216 :: x217 :: x218 :: [])), []⟩ v2 := by
  have HIv := Hid.mk' hIv; have HIn := Hid.mk' hIn; have HEx := Hid.mk' hexit
  have hwk : IntKind.i64.wrap ((k : Int) + 1) = (k : Int) + 1 := wrap_id (by omega) (by omega)
  have hne : ¬ ch2 = k := by omega
  have hk' : (k : Int) + 1 ≤ ln := by omega
  have hk2 : (k : Int) + 1 ≤ ch2 := by omega
  have hkc : ((k : Int) + 1).toNat = k + 1 := by omega
  have hk0 : (0 : Int) ≤ (k : Int) + 1 := by omega
  have tge : decide ((k : Int) ≥ 0) = true := by rw [decide_eq_true_eq]; omega
  clear hIv hIn hexit
  have c0 : v2.cell? ⟨ub, 0, none⟩ = some (.int .i64 u.id) := cell_of_row v2 ub 0 _ _ _ hro
  have c1 : v2.cell? ⟨ub, 1, none⟩ = some (.int .i64 u.size) := cell_of_row v2 ub 1 _ _ _ hro
  have c2 : v2.cell? ⟨ub, 2, none⟩ = some (.string u.note) := cell_of_row v2 ub 2 _ _ _ hro
  have c3 : v2.cell? ⟨ub, 3, none⟩ = some (.slice ba u.bytes.length bc) := cell_of_row v2 ub 3 _ _ _ hro
  have c4 : v2.cell? ⟨ub, 4, none⟩ = some (.int .i64 u.sent) := cell_of_row v2 ub 4 _ _ _ hro
  have HKc : Hid (∀ w', Below v2.heap.size v2 w' → w'.cell? ⟨ub, 0, none⟩ = some (.int .i64 u.id) ∧ w'.cell? ⟨ub, 1, none⟩ = some (.int .i64 u.size) ∧ w'.cell? ⟨ub, 2, none⟩ = some (.string u.note) ∧ w'.cell? ⟨ub, 3, none⟩ = some (.slice ba u.bytes.length bc) ∧ w'.cell? ⟨ub, 4, none⟩ = some (.int .i64 u.sent) ∧ w'.cell? ⟨gh, 0, none⟩ = some (.slice (some ⟨gu, 0, none⟩) ln ch2)) := fun w' hb => ⟨(hb.cell (p := ⟨ub, 0, none⟩) (World.block_lt_of_cell? v2 _ c0)).trans c0, (hb.cell (p := ⟨ub, 1, none⟩) (World.block_lt_of_cell? v2 _ c1)).trans c1, (hb.cell (p := ⟨ub, 2, none⟩) (World.block_lt_of_cell? v2 _ c2)).trans c2, (hb.cell (p := ⟨ub, 3, none⟩) (World.block_lt_of_cell? v2 _ c3)).trans c3, (hb.cell (p := ⟨ub, 4, none⟩) (World.block_lt_of_cell? v2 _ c4)).trans c4, (hb.cell (p := ⟨gh, 0, none⟩) (World.block_lt_of_cell? v2 _ hgc)).trans hgc⟩
  have HSm : Hid (Calls Tryd.prog 21 #[.slice (some ⟨v2.heap.size, 0, none⟩) 1 1, .slice (some ⟨gu, k * 5, none⟩) 1 (ch2 - k)] (v2.drew.alloc (.cells #[.int .i64 u.id, .int .i64 u.size, .string u.note, .slice ba u.bytes.length bc, .int .i64 u.sent] 44)) fun e w' => e = .returned (.bool true) ∧ Below v2.heap.size v2 w') := by
    have hb2 : Below v2.heap.size v2 (v2.drew.alloc (.cells #[.int .i64 u.id, .int .i64 u.size, .string u.note, .slice ba u.bytes.length bc, .int .i64 u.sent] 44)) := (below_drew _ _).trans ((Below.refl _ v2.drew).alloc (Nat.le_refl _) _)
    have h1 : IsUps (v2.drew.alloc (.cells #[.int .i64 u.id, .int .i64 u.size, .string u.note, .slice ba u.bytes.length bc, .int .i64 u.sent] 44)) (some ⟨v2.heap.size, 0, none⟩) 1 [u] := ⟨[(u, ⟨ba, bc⟩)], rfl, by rw [upV_one]; exact IsV.made v2.drew _ 1 _ _, fun y hy => by rw [List.mem_singleton.1 hy]; exact HIv.out.stay hb2⟩
    exact (sameUps_yes [u] _ _ 1 (ch2 - k) _ h1 (HIn.out _ hb2) (by simp)).mono fun e w' ⟨g1, q, g2⟩ => ⟨g1, by rw [g2]; exact then_ hb2 (below_drewsN _ q)⟩
  have HWh : Hid (∀ W, Below v2.heap.size v2 W → Calls Tryd.prog 28 #[.agg #[.int .i64 u.id, .int .i64 u.size, .string u.note, .slice ba u.bytes.length bc, .int .i64 u.sent]] W fun e w' => e = .returned (.bool (decide (u.size = u.bytes.length))) ∧ Below v2.heap.size v2 w') := fun W hW => (whole_any u.id u.size u.sent u.note ba u.bytes.length bc W).mono fun e w' ⟨g1, g2⟩ => ⟨g1, by rw [g2]; exact then_ hW ((Below.refl _ W).alloc (Nat.le_refl _) _)⟩
  have hnw : ¬ v2.heap.size = ub := by have := World.block_lt_of_cell? v2 _ c0; show ¬ v2.heap.size = ub; have h2 : ub < v2.heap.size := this; omega
  clear hro HIv
  obtain ⟨tb, htb1, htb2⟩ : ∃ tb, decide (u.size = (u.bytes.length : Int)) = tb ∧ (u.size == (u.bytes.length : Int)) = tb := ⟨_, rfl, by rw [Bool.eq_iff_iff]; simp⟩
  rw [htb1] at HWh
  clear htb1
  conv => arg 2; whnf
  refine wp_region_noPanic ?_
  cases tb
  all_goals
    go_region_held3 (fun w' => w'.cell? ⟨ub, 0, none⟩ = some (.int .i64 u.id) ∧ w'.cell? ⟨ub, 1, none⟩ = some (.int .i64 u.size) ∧ w'.cell? ⟨ub, 2, none⟩ = some (.string u.note) ∧ w'.cell? ⟨ub, 3, none⟩ = some (.slice ba u.bytes.length bc) ∧ w'.cell? ⟨ub, 4, none⟩ = some (.int .i64 u.sent) ∧ w'.cell? ⟨gh, 0, none⟩ = some (.slice (some ⟨gu, 0, none⟩) ln ch2)) (first | go_keep | exact HKw.out) (first
      | (go_at_call 21; refine HSm.out.mono ?_; rintro e v3 ⟨rfl, hb3⟩; have HKw := Hid.mk' (HKc.out v3 hb3); have HV3 := Hid.mk' hb3; clear hb3)
      | (go_at_call 28; refine (HWh.out _ HV3.out).mono ?_; rintro e v4 ⟨rfl, hb4⟩; have HKw := Hid.mk' (HKc.out v4 hb4); have HV4 := Hid.mk' hb4; clear hb4))
    all_goals refine NoPanic.normal ?_
    all_goals exact HEx.out _ _ _ _ _ _ _ _ _ _ _ _ _ _ _ _ _ _ _ _ _ _ _ _ _ _ _ _ _ _ _ _ HV4.out
end Go.Proofs.YtankilclhknbkaaDoor

/- SpoolDoes: the region in which all that both hold is held against each other, walked. -/
namespace Go.Proofs.YtankilclhknbkaaDoor
open Go.RowKit

set_option maxRecDepth 100000 in
set_option maxHeartbeats 20000000 in
theorem spAll_any (w wk : World) (gs gh go gw xb c : Nat) (s s' : Sp.St) (p : Stp) (hR : RoundAt w.heap.size w wk gs gh go gw xb s' s' s p) (hls : s.last ≤ 1000000) (hls' : s'.last ≤ 1000000) (Q0 : Exit → Act → World → Prop)
    (x0 x1 x2 x5 x6 x11 x12 x13 x14 x15 x16 x17 x18 x19 x20 x21 x22 x23 x24 x25 x26 x27 x28 x29 x30 x31 x32 x33 x34 x35 x36 x37 x38 x39 x40 x41 x42 x43 x44 x45 x46 x47 x48 x49 x50 x51 x52 x53 x54 x55 x56 x57 x58 x59 x60 x61 x62 x63 x64 x65 x66 x67 x68 x69 x70 x71 x72 x73 x74 x75 x76 x77 x78 x79 x80 x81 x82 x83 x84 x85 x86 x87 x88 x89 x90 x91 x92 x93 x94 x95 x96 x97 x98 x99 x100 x101 x102 x103 x104 x105 x106 x107 x108 x109 x110 x111 x112 x113 x114 x115 x116 x117 x118 x119 x120 x121 x122 x123 x124 x125 x126 x127 x128 x129 x130 x131 x132 x133 x134 x135 x136 x137 x138 x139 x140 x141 x142 x143 x144 x145 x146 x147 x148 x149 x150 x151 x152 x153 x154 x155 x156 x157 x158 x159 x160 x161 x162 x163 x164 x165 x166 x167 x168 x169 x170 x171 x172 x173 x174 x175 x176 x177 x178 x179 x180 x181 x182 x183 x184 x185 x186 x187 x188 x189 x190 x191 x192 x193 x194 x195 x196 x197 x198 x199 x200 x201 x202 x203 x204 x205 x206 x207 x208 x209 x210 x211 x212 x213 x214 x215 x216 x217 x218 : Value)
    (hexit : ∀ (w' : World) (y126 y127 y128 y129 y130 y131 y132 y133 y134 y135 y136 y137 y138 y139 y140 y141 y142 y143 y144 y145 y146 y147 y148 y149 y150 y151 y152 y153 y154 y155 y156 y157 y158 y159 y160 y161 y162 y163 y164 y165 y166 y167 y168 y169 y170 y171 y172 y173 y174 : Value), Below wk.heap.size wk w' → Q0 .normal ⟨(List.toArray (x0 :: x1 :: x2 :: (.pointer (some ⟨gs, 0, none⟩)) :: (.pointer (some ⟨gh, 0, none⟩)) :: x5 :: x6 :: (.pointer (some ⟨go, 0, none⟩)) :: (.pointer (some ⟨gw, 0, none⟩)) :: (.int .i64 (c : Int)) :: (.int .i64 (c : Int)) :: x11 :: x12 :: x13 :: x14 :: x15 :: x16 :: x17 :: x18 :: x19 :: x20 :: x21 :: x22 :: x23 :: x24 :: x25 :: x26 :: x27 :: x28 :: x29 :: x30 :: x31 :: x32 :: x33 :: x34 :: x35 :: x36 :: x37 :: x38 :: x39 :: x40 :: x41 :: x42 :: x43 :: x44 :: x45 :: x46 :: x47 :: x48 :: x49 :: x50 :: x51 :: x52 :: x53 :: x54 :: x55 :: x56 :: x57 :: x58 :: x59 :: x60 :: x61 :: x62 :: x63 :: x64 :: x65 :: x66 :: x67 :: x68 :: x69 :: x70 :: x71 :: x72 :: x73 :: x74 :: x75 :: x76 :: x77 :: x78 :: x79 :: x80 :: x81 :: x82 :: x83 :: x84 :: x85 :: x86 :: x87 :: x88 :: x89 :: x90 :: x91 :: x92 :: x93 :: x94 :: x95 :: x96 :: x97 :: x98 :: x99 :: x100 :: x101 :: x102 :: x103 :: x104 :: x105 :: x106 :: x107 :: x108 :: x109 :: x110 :: x111 :: x112 :: x113 :: x114 :: x115 :: x116 :: x117 :: x118 :: x119 :: x120 :: x121 :: x122 :: x123 :: x124 :: x125 :: (y126) :: (y127) :: (y128) :: (y129) :: (y130) :: (y131) :: (y132) :: (y133) :: (y134) :: (y135) :: (y136) :: (y137) :: (y138) :: (y139) :: (y140) :: (y141) :: (y142) :: (y143) :: (y144) :: (y145) :: (y146) :: (y147) :: (y148) :: (y149) :: (y150) :: (y151) :: (y152) :: (y153) :: (y154) :: (y155) :: (y156) :: (y157) :: (y158) :: (y159) :: (y160) :: (y161) :: (y162) :: (y163) :: (y164) :: (y165) :: (y166) :: (y167) :: (y168) :: (y169) :: (y170) :: (y171) :: (y172) :: (y173) :: (y174) :: (.bool false) :: x176 :: x177 :: x178 :: x179 :: x180 :: x181 :: x182 :: x183 :: x184 :: x185 :: x186 :: x187 :: x188 :: x189 :: x190 :: x191 :: x192 :: x193 :: x194 :: x195 :: x196 :: x197 :: x198 :: x199 :: x200 :: x201 :: x202 :: x203 :: x204 :: x205 :: x206 :: x207 :: x208 :: x209 :: x210 :: x211 :: x212 :: x213 :: x214 :: x215 :: x216 :: x217 :: x218 :: [])), []⟩ w') :
    Code.wp Tryd.prog spAll Q0 ⟨(List.toArray (x0 :: x1 :: x2 :: (.pointer (some ⟨gs, 0, none⟩)) :: (.pointer (some ⟨gh, 0, none⟩)) :: x5 :: x6 :: (.pointer (some ⟨go, 0, none⟩)) :: (.pointer (some ⟨gw, 0, none⟩)) :: (.int .i64 (c : Int)) :: (.int .i64 (c : Int)) :: x11 :: x12 :: x13 :: x14 :: x15 :: x16 :: x17 :: x18 :: x19 :: x20 :: x21 :: x22 :: x23 :: x24 :: x25 :: x26 :: x27 :: x28 :: x29 :: x30 :: x31 :: x32 :: x33 :: x34 :: x35 :: x36 :: x37 :: x38 :: x39 :: x40 :: x41 :: x42 :: x43 :: x44 :: x45 :: x46 :: x47 :: x48 :: x49 :: x50 :: x51 :: x52 :: x53 :: x54 :: x55 :: x56 :: x57 :: x58 :: x59 :: x60 :: x61 :: x62 :: x63 :: x64 :: x65 :: x66 :: x67 :: x68 :: x69 :: x70 :: x71 :: x72 :: x73 :: x74 :: x75 :: x76 :: x77 :: x78 :: x79 :: x80 :: x81 :: x82 :: x83 :: x84 :: x85 :: x86 :: x87 :: x88 :: x89 :: x90 :: x91 :: x92 :: x93 :: x94 :: x95 :: x96 :: x97 :: x98 :: x99 :: x100 :: x101 :: x102 :: x103 :: x104 :: x105 :: x106 :: x107 :: x108 :: x109 :: x110 :: x111 :: x112 :: x113 :: x114 :: x115 :: x116 :: x117 :: x118 :: x119 :: x120 :: x121 :: x122 :: x123 :: x124 :: x125 :: x126 :: x127 :: x128 :: x129 :: x130 :: x131 :: x132 :: x133 :: x134 :: x135 :: x136 :: x137 :: x138 :: x139 :: x140 :: x141 :: x142 :: x143 :: x144 :: x145 :: x146 :: x147 :: x148 :: x149 :: x150 :: x151 :: x152 :: x153 :: x154 :: x155 :: x156 :: x157 :: x158 :: x159 :: x160 :: x161 :: x162 :: x163 :: x164 :: x165 :: x166 :: x167 :: x168 :: x169 :: x170 :: x171 :: x172 :: x173 :: x174 :: x175 :: x176 :: x177 :: x178 :: x179 :: x180 :: x181 :: x182 :: x183 :: x184 :: x185 :: x186 :: x187 :: x188 :: x189 :: x190 :: x191 :: x192 :: x193 :: x194 :: x195 :: x196 :: x197 :: x198 :: x199 :: x200 :: x201 :: x202 :: x203 :: x204 :: x205 :: x206 :: x207 :: x208 :: x209 :: x210 :: x211 :: x212 :: x213 :: x214 :: x215 :: x216 :: x217 :: x218 :: [])), []⟩ wk := by
  have HEx := Hid.mk' hexit
  clear hexit
  obtain ⟨Sg, hsp, okp, _⟩ := hR.fst
  obtain ⟨Hg, hho, _, _⟩ := hR.snd
  obtain ⟨Ng, hsd, oks⟩ := hR.side
  have hll := okp.last0
  have hl2 := oks.last0
  obtain ⟨ah, ch, d0, d1, _, _, _, _, hUh⟩ := hho.cells
  obtain ⟨aw, cw, k0, k1, _, _, _, _, hUw⟩ := hsd.was.cells
  have HCc : Hid (∀ W, Below wk.heap.size wk W → W.cell? ⟨gh, 0, none⟩ = some (.slice ah s'.l.length ch) ∧ W.cell? ⟨gh, 1, none⟩ = some (.int .i64 s'.last) ∧ W.cell? ⟨gw, 0, none⟩ = some (.slice aw s.l.length cw) ∧ W.cell? ⟨gw, 1, none⟩ = some (.int .i64 s.last)) := fun W hW => ⟨(hW.cell (p := ⟨gh, 0, none⟩) hho.lt).trans d0, (hW.cell (p := ⟨gh, 1, none⟩) hho.lt).trans d1, (hW.cell (p := ⟨gw, 0, none⟩) hsd.was.lt).trans k0, (hW.cell (p := ⟨gw, 1, none⟩) hsd.was.lt).trans k1⟩
  have HL : Hid (∀ W g (t : Sp.St), (g = gs ∧ t = s') ∨ (g = go ∧ t = s) → Below wk.heap.size wk W → Calls Tryd.prog 22 #[.pointer (some ⟨g, 0, none⟩)] W fun e w' => ∃ al, e = .returned (.slice al t.l.length t.l.length) ∧ IsUps w' al t.l.length t.l ∧ Below wk.heap.size wk w') := fun W g t hk hW => by
    rcases hk with ⟨rfl, rfl⟩ | ⟨rfl, rfl⟩
    · exact (listU_any _ Sg _ W (hsp.stay hW) okp.small).mono fun e w' ⟨al, h1, h2, h3⟩ => ⟨al, h1, h2.isUps, then_ hW h3⟩
    · exact (listU_any _ Ng _ W (hsd.old.stay hW) oks.small).mono fun e w' ⟨al, h1, h2, h3⟩ => ⟨al, h1, h2.isUps, then_ hW h3⟩
  have HSU : Hid (∀ W al a cp (t : Sp.St), (a = ah ∧ cp = ch ∧ t = s') ∨ (a = aw ∧ cp = cw ∧ t = s) → IsUps W al t.l.length t.l → Below wk.heap.size wk W → Calls Tryd.prog 21 #[.slice al t.l.length t.l.length, .slice a t.l.length cp] W fun e w' => e = .returned (.bool true) ∧ Below wk.heap.size wk w') := fun W al a cp t hk hI hW => by
    rcases hk with ⟨rfl, rfl, rfl⟩ | ⟨rfl, rfl, rfl⟩
    · exact (sameUps_yes _ al _ _ _ W hI (hUh.isUps.stay hW) (by have := okp.few; omega)).mono fun e w' ⟨h1, q, h2⟩ => ⟨h1, by rw [h2]; exact then_ hW (below_drewsN W q)⟩
    · exact (sameUps_yes _ al _ _ _ W hI (hUw.isUps.stay hW) (by have := oks.few; omega)).mono fun e w' ⟨h1, q, h2⟩ => ⟨h1, by rw [h2]; exact then_ hW (below_drewsN W q)⟩
  have HU1 : Hid (∀ W, Below wk.heap.size wk W → Calls Tryd.prog 23 #[.pointer (some ⟨gs, 0, none⟩)] W fun e w' => e = .returned (.int .i64 (Sp.used s'.l)) ∧ Below wk.heap.size wk w') := fun W hW => (usedU_any s' Sg gs W (hsp.stay hW) (by have := okp.few; omega) (by have := okp.quota; omega)).mono fun e w' ⟨h1, h2⟩ => ⟨h1, then_ hW h2⟩
  have HU2 : Hid (∀ W, Below wk.heap.size wk W → Calls Tryd.prog 24 #[.pointer (some ⟨gh, 0, none⟩)] W fun e w' => e = .returned (.int .i64 (Sp.used s'.l)) ∧ Below wk.heap.size wk w') := fun W hW => (usedH_any s' Hg gh W (hho.stay hW) (by have := okp.few; omega) (by have := okp.quota; omega)).mono fun e w' ⟨h1, h2⟩ => ⟨h1, by rw [h2]; exact hW⟩
  have HN : Hid (∀ W g (t : Sp.St), (g = gs ∧ t = s') ∨ (g = go ∧ t = s) → Below wk.heap.size wk W → Calls Tryd.prog 25 #[.pointer (some ⟨g, 0, none⟩)] W fun e w' => e = .returned (.int .i64 (t.last + 1)) ∧ Below wk.heap.size wk w') := fun W g t hk hW => by
    rcases hk with ⟨rfl, rfl⟩ | ⟨rfl, rfl⟩
    · exact (nextU_any _ Sg _ W (hsp.stay hW) hll (by omega)).mono fun e w' ⟨h1, h2⟩ => ⟨h1, by rw [h2]; exact hW⟩
    · exact (nextU_any _ Ng _ W (hsd.old.stay hW) hl2 hls).mono fun e w' ⟨h1, h2⟩ => ⟨h1, by rw [h2]; exact hW⟩
  have hwa : IntKind.i64.wrap (s'.last + 1) = s'.last + 1 := wrap_id (by omega) (by omega)
  have hwb : IntKind.i64.wrap (s.last + 1) = s.last + 1 := wrap_id (by omega) (by omega)
  clear hsp hho hsd okp oks hUh hUw hR
  conv => arg 2; whnf
  refine wp_region_noPanic ?_
  have HBc : Hid (Below wk.heap.size wk wk.drew) := below_drew _ _
  generalize Sp.used s'.l = uu at *
  go_region_held3 (fun w' => w'.cell? ⟨gh, 0, none⟩ = some (.slice ah s'.l.length ch) ∧ w'.cell? ⟨gh, 1, none⟩ = some (.int .i64 s'.last) ∧ w'.cell? ⟨gw, 0, none⟩ = some (.slice aw s.l.length cw) ∧ w'.cell? ⟨gw, 1, none⟩ = some (.int .i64 s.last)) (first | go_keep) (first
    | (go_at_call_of 22 gs; refine (HL.out _ gs s' (Or.inl ⟨rfl, rfl⟩) HBc.out).mono ?_; rintro e u1 ⟨al, rfl, hu1, hb1⟩; have HUa := Hid.mk' hu1; clear hu1; obtain ⟨a0, a1, a2, a3⟩ := HCc.out u1 hb1; have HBc := Hid.mk' hb1; clear hb1)
    | (go_at_call_of 22 go; refine (HL.out _ go s (Or.inr ⟨rfl, rfl⟩) HBc.out).mono ?_; rintro e u1 ⟨al, rfl, hu1, hb1⟩; have HUa := Hid.mk' hu1; clear hu1; obtain ⟨a0, a1, a2, a3⟩ := HCc.out u1 hb1; have HBc := Hid.mk' hb1; clear hb1)
    | (go_at_call_of 21 ah; refine (HSU.out _ _ ah ch s' (Or.inl ⟨rfl, rfl, rfl⟩) HUa.out HBc.out).mono ?_; rintro e u1 ⟨rfl, hb1⟩; obtain ⟨a0, a1, a2, a3⟩ := HCc.out u1 hb1; have HBc := Hid.mk' hb1; clear hb1)
    | (go_at_call_of 21 aw; refine (HSU.out _ _ aw cw s (Or.inr ⟨rfl, rfl, rfl⟩) HUa.out HBc.out).mono ?_; rintro e u1 ⟨rfl, hb1⟩; obtain ⟨a0, a1, a2, a3⟩ := HCc.out u1 hb1; have HBc := Hid.mk' hb1; clear hb1)
    | (go_at_call 23; refine (HU1.out _ HBc.out).mono ?_; rintro e u1 ⟨rfl, hb1⟩; obtain ⟨a0, a1, a2, a3⟩ := HCc.out u1 hb1; have HBc := Hid.mk' hb1; clear hb1)
    | (go_at_call 24; refine (HU2.out _ HBc.out).mono ?_; rintro e u1 ⟨rfl, hb1⟩; obtain ⟨a0, a1, a2, a3⟩ := HCc.out u1 hb1; have HBc := Hid.mk' hb1; clear hb1)
    | (go_at_call_of 25 gs; refine (HN.out _ gs s' (Or.inl ⟨rfl, rfl⟩) HBc.out).mono ?_; rintro e u1 ⟨rfl, hb1⟩; obtain ⟨a0, a1, a2, a3⟩ := HCc.out u1 hb1; have HBc := Hid.mk' hb1; clear hb1)
    | (go_at_call_of 25 go; refine (HN.out _ go s (Or.inr ⟨rfl, rfl⟩) HBc.out).mono ?_; rintro e u1 ⟨rfl, hb1⟩; obtain ⟨a0, a1, a2, a3⟩ := HCc.out u1 hb1; have HBc := Hid.mk' hb1; clear hb1))
  all_goals refine NoPanic.normal ?_
  all_goals exact HEx.out _ _ _ _ _ _ _ _ _ _ _ _ _ _ _ _ _ _ _ _ _ _ _ _ _ _ _ _ _ _ _ _ _ _ _ _ _ _ _ _ _ _ _ _ _ _ _ _ _ _ HBc.out
end Go.Proofs.YtankilclhknbkaaDoor

/- SpoolDoes, walked. -/
namespace Go.Proofs.YtankilclhknbkaaDoor
open Go.RowKit

set_option maxRecDepth 100000 in
set_option maxHeartbeats 40000000 in
theorem spoolDoes_any (l : List Stp) (ao : Option Addr) (cap n : Nat) (w : World) (hl : IsV w ao cap n (stpV l)) (hn : l.length = n) (hz : ∀ p ∈ l, p.text.size ≤ 140737488355328) (hN : n ≤ 9223372036854775807) :
    Calls Tryd.prog 3 #[.slice ao n cap] w fun e w' => e = .returned (.bool true) ∧ Below w.heap.size w w' := by
  subst hn
  have hcap := hl.1
  have H := Hid.mk' hl
  have HSb := Hid.mk' (spoolBegun_any w)
  have HG : Hid (∀ W, Below w.heap.size w W → Calls Tryd.prog 5 #[.slice ao l.length cap] W fun e w' => ∃ b : Bool, e = .returned (.bool b) ∧ (b = false → l.length ≤ 200 ∧ stpN l ≤ 20000) ∧ w' = W) := fun W hW => greatSteps_any l ao cap l.length W (hl.stay hW) rfl hz hN
  clear hl hz
  go_enter Tryd.func3, Tryd.ntmps3
  go_wp2_with fail
  refine HSb.out.mono ?_
  rintro e w1 ⟨rfl, hb1⟩
  have HB1 := Hid.mk' hb1
  have HG1 := Hid.mk' (HG.out w1 hb1)
  clear hb1 HG
  go_wp2_with fail
  refine HG1.out.mono ?_
  rintro e w1' ⟨b, rfl, hsm, hw1⟩
  rw [hw1]
  clear hw1 w1'
  cases b with
  | true =>
    go_wp2
    go_ret
    exact ⟨rfl, HB1.out⟩
  | false =>
    obtain ⟨h200, h20⟩ := hsm rfl
    have HNw := Hid.mk' (newU_any w1)
    clear hsm
    go_wp2_with fail
    refine HNw.out.mono ?_
    rintro e w2 ⟨rfl, hs2, hb2⟩
    have HB2 : Hid (Below w.heap.size w w2) := HB1.out.trans (hb2.mono HB1.out.size)
    have hgl := hs2.lt
    have HD0 : Hid (∃ S H, Duo w.heap.size (w2.alloc (.cells #[.slice none 0 0, .int .i64 0] 30)) w1.heap.size w2.heap.size Sp.new Sp.new S H) := by
      have hbA := (Below.refl _ w2).alloc (Nat.le_refl _) (.cells #[.slice none 0 0, .int .i64 0] 30)
      have h1 := HB1.out.size
      refine ⟨fun k => w1.heap.size ≤ k ∧ k < w2.heap.size, fun k => k = w2.heap.size, (hs2.mono (fun k hk e => ⟨e, hk⟩)).stay hbA, ⟨none, 0, heap_alloc_new w2 _, rfl, UpO.nil _ _ _ _⟩, fun k e e2 => by omega, fun k e => ⟨by omega, by rw [World.size_alloc]; omega⟩, fun k e => ⟨by omega, by rw [World.size_alloc]; omega⟩⟩
    have HB3 : Hid (Below w.heap.size w (w2.alloc (.cells #[.slice none 0 0, .int .i64 0] 30))) := HB2.out.alloc HB2.out.size _
    clear hs2 hb2 HB1 HG1 HNw HSb HB2 hgl
    go_wp2
    generalize w2.alloc (.cells #[.slice none 0 0, .int .i64 0] 30) = w3 at *
    generalize w1.heap.size = gs at *
    generalize w2.heap.size = gh at *
    go_loopw [5] (fun t wr => ∃ (i : Nat) (s : Sp.St) (S H : Nat → Prop), i ≤ l.length ∧ t = .int .i64 i ∧ Duo w.heap.size wr gs gh s s S H ∧ Sp.Ok s ∧ s.last ≤ i ∧ Below w.heap.size w wr) (fun t _ => l.length - (intOf t).toNat)
    case atStart =>
      obtain ⟨S, H, hD⟩ := HD0.out
      exact ⟨0, Sp.new, S, H, Nat.zero_le _, rfl, hD, Sp.Ok.new, by decide, HB3.out⟩
    case round =>
      obtain ⟨i, s, S, Hh, hi, rfl, hD, ok, hla, hB⟩ := hrel
      have HB := Hid.mk' hB; have HD := Hid.mk' hD; have HK := Hid.mk' ok
      have hl0 := ok.last0
      clear hB hD ok HD0 HB3
      generalize wr = wo at *
      by_cases hlt : i < l.length
      · obtain ⟨bb, oo, rfl, hc0, hc1, hc2, hc3⟩ := stp_at (H.out.stay HB.out) i hlt
        have hlt' : (i : Int) < l.length := by omega
        have htx : l[i].text.size ≤ 20000 := Nat.le_trans (stpN_one l i hlt) h20
        generalize l[i] = p at *
        have hbX := (Below.refl _ wo).alloc (Nat.le_refl _) (.cells #[.int .i64 p.op, .int .i64 p.id, .int .i64 p.n, .string p.text] 32)
        have HC1 := Hid.mk' (copyU_any s S gs _ (HD.out.sp.stay hbX) HK.out.small)
        have HC2 : Hid (∀ w4, Below (wo.alloc (.cells #[.int .i64 p.op, .int .i64 p.id, .int .i64 p.n, .string p.text] 32)).heap.size (wo.alloc (.cells #[.int .i64 p.op, .int .i64 p.id, .int .i64 p.n, .string p.text] 32)) w4 → Calls Tryd.prog 8 #[.pointer (some ⟨gh, 0, none⟩)] w4 fun e w' => ∃ g', e = .returned (.pointer (some ⟨g', 0, none⟩)) ∧ HoldAt w' (fun k => w4.heap.size ≤ k) g' s ∧ Below w4.heap.size w4 w') := fun w4 hb4 => copyH_any s Hh gh w4 ((HD.out.ho.stay hbX).stay hb4) HK.out.small
        have HR : Hid (∀ w4 w5 go gw, Below (wo.alloc (.cells #[.int .i64 p.op, .int .i64 p.id, .int .i64 p.n, .string p.text] 32)).heap.size (wo.alloc (.cells #[.int .i64 p.op, .int .i64 p.id, .int .i64 p.n, .string p.text] 32)) w4 → SpoolAt w4 (fun k => (wo.alloc (.cells #[.int .i64 p.op, .int .i64 p.id, .int .i64 p.n, .string p.text] 32)).heap.size ≤ k) go s → HoldAt w5 (fun k => w4.heap.size ≤ k) gw s → Below w4.heap.size w4 w5 → RoundAt w.heap.size w w5 gs gh go gw wo.heap.size s s s p) := fun w4 w5 go gw hb4 h4 h5 hb5 => by
          have hbw := then_ hbX hb4
          have hbw5 := then_ hbw hb5
          have z4 := hbw.size; have z5 := hb5.size; have zo := HB.out.size
          refine ⟨S, Hh, fun k => wo.heap.size ≤ k ∧ k < w5.heap.size, HD.out.stay hbw5, ⟨(h4.stay hb5).mono (fun k hk e => ⟨by rw [World.size_alloc] at e; omega, hk⟩), h5.mono (fun k hk e => ⟨by omega, hk⟩), ?_, ⟨Nat.le_refl _, ?_⟩⟩, fun k e => ⟨⟨fun e2 => ?_, fun e2 => ?_⟩, e.2⟩, HB.out.trans (hbw5.mono zo), ⟨HK.out, HK.out, HK.out⟩, by omega⟩
          · exact (hb5.block wo.heap.size (by have := hb4.size; rw [World.size_alloc] at this; omega)).trans ((hb4.block wo.heap.size (by simp)).trans (heap_alloc_new wo _))
          · have := hb4.size; rw [World.size_alloc] at this; omega
          · have := (HD.out.lowS k e2).2; omega
          · have := (HD.out.lowH k e2).2; omega
        clear hbX
        go_upto_region 12 with (first
          | (go_at_call 7; refine HC1.out.mono ?_; rintro e w4 ⟨go, rfl, hs4, hb4⟩; have HS4 := Hid.mk' hs4; have HB4 := Hid.mk' hb4; have HC3 := Hid.mk' (HC2.out w4 hb4); clear hs4 hb4)
          | (go_at_call 8; refine HC3.out.mono ?_; rintro e w5 ⟨gw, rfl, hs5, hb5⟩; have HRd := Hid.mk' (HR.out w4 w5 go gw HB4.out HS4.out hs5 hb5); clear hs5 hb5))
        generalize wo.heap.size = xb at *
        clear HC1 HC2 HR HS4 HB4 HC3 HB HD hc0 hc1 hc2 hc3
        have HXc : Hid (∀ W {s1 t1 : Sp.St}, RoundAt w.heap.size w W gs gh go gw xb s1 t1 s p → W.cell? ⟨xb, 0, none⟩ = some (.int .i64 p.op) ∧ W.cell? ⟨xb, 1, none⟩ = some (.int .i64 p.id) ∧ W.cell? ⟨xb, 2, none⟩ = some (.int .i64 p.n) ∧ W.cell? ⟨xb, 3, none⟩ = some (.string p.text)) := fun W _ _ hW => by
          obtain ⟨N, hS, _⟩ := hW.side
          exact hS.cells
        obtain ⟨x0, x1, x2, x3⟩ := HXc.out w5 HRd.out
        go_cut [38] from 23 to 218 (fun t wd => t = .int .i64 p.op ∧ wd = w5)
        case first =>
          go_wp2
          go_meet
          exact ⟨rfl, rfl⟩
        case rest =>
          obtain ⟨rfl, rfl⟩ := hcut
          rename_i hkk
          refine hkk _ _ ?_
          go_cut [9, 10] from 23 to 218 (fun v9 v10 wd => ∃ (s' : Sp.St) (c : Nat), v9 = .int .i64 c ∧ v10 = .int .i64 c ∧ RoundAt w.heap.size w wd gs gh go gw xb s' s' s p ∧ s'.last ≤ i + 1)
          case first =>
            have HSw := Hid.mk' (spSwitch_any w wc gs gh go gw xb i s p HRd.out HK.out htx hla (by omega))
            refine HSw.out _ _ _ _ _ _ _ _ _ _ _ _ _ _ _ _ _ _ _ _ _ _ _ _ _ _ _ _ _ _ _ _ _ _ _ _ _ _ _ _ _ _ _ _ _ _ _ _ _ _ _ _ _ _ _ _ _ _ _ _ _ _ _ _ _ _ _ _ _ _ _ _ _ _ _ _ _ _ _ _ _ _ _ _ _ _ _ _ _ _ _ _ _ _ _ _ _ _ _ _ _ _ _ _ _ _ _ _ _ _ _ _ _ _ _ _ _ _ _ _ _ _ _ _ _ _ _ _ _ _ _ _ _ _ _ _ _ _ _ _ _ _ _ _ _ _ _ _ _ _ _ _ _ _ _ _ _ _ _ _ _ _ _ _ _ _ _ _ _ _ _ _ _ _ _ _ _ _ _ _ _ _ _ _ _ _ _ _ _ _ _ _ _ _ _ _ _ _ _ _ _ _ _ _ _ _ _ _ _ _ _ _ _ _ (fun w6 s6 c6 y11 y12 y38 y39 y40 y41 y42 y43 y44 y45 y46 y47 y48 y49 y50 y51 y52 y53 y54 y55 y56 y57 y58 y59 y60 y61 y62 y63 y64 y65 y66 y67 y68 y69 y70 y71 y72 y73 y74 y75 y76 y77 y78 y79 y80 y81 y82 y83 y84 y85 y86 y87 y88 y89 y90 y91 y92 y93 y94 y95 y96 y97 y98 y99 y100 y101 y102 y103 y104 y105 y106 y107 y108 y109 y110 y111 y112 y113 y114 y115 y116 y117 y118 y119 y120 y121 y122 y123 y124 y125 hr6 hl6 => ?_)
            have HR7 := Hid.mk' hr6; have HLa := Hid.mk' hl6
            clear hr6 hl6 HSw
            go_wp2
            go_meet
            exact ⟨s6, c6, rfl, rfl, HR7.out, HLa.out⟩
          case rest =>
            obtain ⟨s', c, rfl, rfl, hR, hla'⟩ := hcut
            generalize wc = wk at *
            have hls : s.last ≤ 1000000 := by omega
            clear x0 x1 x2 x3 HRd HK hl0 hla
            have okp := hR.fst.choose_spec.2.1
            have HRc := Hid.mk' hR
            have HAll := Hid.mk' (spAll_any w wk gs gh go gw xb c s s' p hR hls (by omega))
            have HKs := Hid.mk' okp
            clear okp hR
            rename_i hkk2
            go_upto_region 29 with fail
            go_cut [175] from 23 to 218 (fun t wd => t = .bool false ∧ Below wk.heap.size wk wd)
            case first =>
              refine HAll.out _ _ _ _ _ _ _ _ _ _ _ _ _ _ _ _ _ _ _ _ _ _ _ _ _ _ _ _ _ _ _ _ _ _ _ _ _ _ _ _ _ _ _ _ _ _ _ _ _ _ _ _ _ _ _ _ _ _ _ _ _ _ _ _ _ _ _ _ _ _ _ _ _ _ _ _ _ _ _ _ _ _ _ _ _ _ _ _ _ _ _ _ _ _ _ _ _ _ _ _ _ _ _ _ _ _ _ _ _ _ _ _ _ _ _ _ _ _ _ _ _ _ _ _ _ _ _ _ _ _ _ _ _ _ _ _ _ _ _ _ _ _ _ _ _ _ _ _ _ _ _ _ _ _ _ _ _ _ _ _ _ _ _ _ _ _ _ _ _ _ _ _ _ _ _ _ _ _ _ _ _ _ _ _ _ _ _ _ _ _ _ _ _ _ _ _ _ _ _ _ _ _ _ _ _ _ _ _ _ _ _ _ _ _ (fun w6 y126 y127 y128 y129 y130 y131 y132 y133 y134 y135 y136 y137 y138 y139 y140 y141 y142 y143 y144 y145 y146 y147 y148 y149 y150 y151 y152 y153 y154 y155 y156 y157 y158 y159 y160 y161 y162 y163 y164 y165 y166 y167 y168 y169 y170 y171 y172 y173 y174 hb6 => ?_)
              have HBc := Hid.mk' hb6
              clear hb6 HAll
              go_wp2
              go_meet
              exact ⟨rfl, HBc.out⟩
            case rest =>
              obtain ⟨rfl, hBd⟩ := hcut
              have hR2 := HRc.out.stay hBd
              obtain ⟨S2, hsp2, ok2, _⟩ := hR2.fst
              obtain ⟨H2, hho2, _, _⟩ := hR2.snd
              obtain ⟨y0, y1, y2, y3⟩ := HXc.out wc hR2
              have HR2 := Hid.mk' hR2
              have HAt : Hid (∀ W, Below wc.heap.size wc W → Calls Tryd.prog 27 #[.pointer (some ⟨gh, 0, none⟩), .int .i64 p.id] W fun e w' => e = .returned (.int .i64 (Sp.pl s'.l p.id)) ∧ w' = W) := fun W hW => atH_any s' H2 gh p.id W (hho2.stay hW) (by have := ok2.few; omega)
              have HXb : Hid (∀ W, Below wc.heap.size wc W → W.cell? ⟨xb, 1, none⟩ = some (.int .i64 p.id)) := fun W hW => (HXc.out W (HR2.out.stay hW)).2.1
              have HEnd : Hid (∀ W, Below wc.heap.size wc W → ∃ S H, Duo w.heap.size W gs gh s' s' S H ∧ Below w.heap.size w W) := fun W hW => by
                obtain ⟨S, H, N, hD, _, _, hB, _, _⟩ := HR2.out.stay hW
                exact ⟨S, H, hD, hB⟩
              cases hp : Sp.place s'.l p.id with
              | none =>
                have HGt := Hid.mk' (getU_none s' S2 gs p.id wc hsp2 ok2 hp)
                rw [Sp.pl_none hp] at HAt
                clear hp hR2 hsp2 hho2 ok2 hBd HAll
                have HBA : Hid (∀ v1 : World, Below wc.heap.size wc v1 → Below wc.heap.size wc (v1.alloc (.cells #[.int .i64 0, .int .i64 0, .string ⟨#[]⟩, .slice none 0 0, .int .i64 0] 44))) := fun v1 h => h.alloc h.size _
                go_wp2_with (first
                  | (go_at_call 26; refine HGt.out.mono ?_; rintro e v1 ⟨rfl, hb1⟩; have HV := Hid.mk' (HBA.out v1 hb1); have z1 := HXb.out _ (HBA.out v1 hb1); clear hb1)
                  | (go_at_call 27; refine (HAt.out _ HV.out).mono ?_; rintro e v2 ⟨rfl, hw⟩; rw [hw]; clear hw))
                go_quiet (fail)
                go_wp2
                obtain ⟨S3, H3, hD3, hB3⟩ := HEnd.out _ (HV.out.trans (below_drewN (Below.refl _ _) nq))
                have HD3 := Hid.mk' hD3; have HB3 := Hid.mk' hB3
                clear hD3 hB3
                go_roundw
                case rel => exact ⟨i + 1, s', S3, H3, by omega, by go_num, HD3.out, HKs.out, by omega, HB3.out⟩
                case measure => simp [intOf]; omega
              | some k =>
                have hk := Sp.place_lt hp
                have HGt := Hid.mk' (getU_some s' S2 gs p.id k wc hsp2 ok2 hp hk)
                rw [Sp.pl_some hp] at HAt
                have hfew := ok2.few
                obtain ⟨ah2, ch2, e0, e1, _, _, _, _, hUh2⟩ := hho2.cells
                obtain ⟨gu, rfl, _, _⟩ := hUh2.at_.row k hk
                have hchk := hUh2.cap_
                have HIn : Hid (∀ W, Below wc.heap.size wc W → IsUps W (some ⟨gu, k * 5, none⟩) (ch2 - k) [s'.l[k]]) := fun W hW => by
                  obtain ⟨b3, o3, q3, e3, x0, x1, x2, x3, x4, x5⟩ := (hUh2.isUps.stay hW).at_ k hk
                  injection e3 with e3; injection e3 with e4 e5; subst e4; subst e5
                  rw [Nat.zero_add] at x0 x1 x2 x3 x4
                  refine ⟨[(s'.l[k], q3)], rfl, ⟨by simp; omega, fun e => by simp at e, fun j v hj => ⟨_, rfl, ?_⟩⟩, fun y hy => by rw [List.mem_singleton.1 hy]; exact x5⟩
                  rw [Addr.add_lit]
                  rw [upV_one] at hj
                  have hj5 : j < 5 := (List.getElem?_eq_some_iff.1 hj).1
                  match j, hj5 with
                  | 0, _ => exact x0.trans hj
                  | 1, _ => exact x1.trans hj
                  | 2, _ => exact x2.trans hj
                  | 3, _ => exact x3.trans hj
                  | 4, _ => exact x4.trans hj
                have HE0 : Hid (∀ W, Below wc.heap.size wc W → W.cell? ⟨gh, 0, none⟩ = some (.slice (some ⟨gu, 0, none⟩) s'.l.length ch2)) := fun W hW => (hW.cell (p := ⟨gh, 0, none⟩) hho2.lt).trans e0
                have hwk : IntKind.i64.wrap ((k : Int) + 1) = (k : Int) + 1 := wrap_id (by omega) (by omega)
                have hne : ¬ ch2 = k := by omega
                have hk' : (k : Int) + 1 ≤ s'.l.length := by omega
                have hk2 : (k : Int) + 1 ≤ ch2 := by omega
                have hkc : ((k : Int) + 1).toNat = k + 1 := by omega
                have hk0 : (0 : Int) ≤ (k : Int) + 1 := by omega
                have tge : decide ((k : Int) ≥ 0) = true := by rw [decide_eq_true_eq]; omega
                clear hp hR2 hsp2 hho2 ok2 hBd HAll hUh2 e0 e1
                generalize s'.l[k] = u at *
                go_upto_region 33 with (first
                  | (go_at_call 26; refine HGt.out.mono ?_; rintro e v1 ⟨ba, bc, rfl, hIb, hb1⟩; have HIb := Hid.mk' hIb; have HV1 := Hid.mk' hb1; have HV : Hid (Below wc.heap.size wc (v1.alloc (.cells #[.int .i64 u.id, .int .i64 u.size, .string u.note, .slice ba u.bytes.length bc, .int .i64 u.sent] 44))) := hb1.alloc hb1.size _; have z1 := HXb.out _ HV.out; clear hb1 hIb)
                  | (go_at_call 27; refine (HAt.out _ HV.out).mono ?_; rintro e v2 ⟨rfl, hw⟩; rw [hw]; clear hw))
                have hbA := (Below.refl _ v1).alloc (Nat.le_refl _) (.cells #[.int .i64 u.id, .int .i64 u.size, .string u.note, .slice ba u.bytes.length bc, .int .i64 u.sent] 44)
                have hro : (v1.alloc (.cells #[.int .i64 u.id, .int .i64 u.size, .string u.note, .slice ba u.bytes.length bc, .int .i64 u.sent] 44)).heap[v1.heap.size]? = some (.cells #[.int .i64 u.id, .int .i64 u.size, .string u.note, .slice ba u.bytes.length bc, .int .i64 u.sent] 44 (0, 0)) := heap_alloc_new v1 _
                have HIv := Hid.mk' (HIb.out.stay hbA)
                have hgc := HE0.out _ HV.out
                clear hbA HIb HV1 z1
                generalize v1.alloc (.cells #[.int .i64 u.id, .int .i64 u.size, .string u.note, .slice ba u.bytes.length bc, .int .i64 u.sent] 44) = v2 at *
                generalize v1.heap.size = ub at *
                have HLs := Hid.mk' (spLast_any v2 gh ub gu k s'.l.length ch2 u ba bc hro HIv.out hgc (fun W hW => HIn.out W (then_ HV.out hW)) hk (by omega) hchk)
                clear hro HIv HIn HE0
                refine HLs.out _ _ _ _ _ _ _ _ _ _ _ _ _ _ _ _ _ _ _ _ _ _ _ _ _ _ _ _ _ _ _ _ _ _ _ _ _ _ _ _ _ _ _ _ _ _ _ _ _ _ _ _ _ _ _ _ _ _ _ _ _ _ _ _ _ _ _ _ _ _ _ _ _ _ _ _ _ _ _ _ _ _ _ _ _ _ _ _ _ _ _ _ _ _ _ _ _ _ _ _ _ _ _ _ _ _ _ _ _ _ _ _ _ _ _ _ _ _ _ _ _ _ _ _ _ _ _ _ _ _ _ _ _ _ _ _ _ _ _ _ _ _ _ _ _ _ _ _ _ _ _ _ _ _ _ _ _ _ _ _ _ _ _ _ _ _ _ _ _ _ _ _ _ _ _ _ _ _ _ _ _ _ _ _ _ _ _ _ _ _ _ _ _ _ _ _ _ _ _ _ _ _ _ _ _ _ _ _ _ _ _ _ _ _ _ _ (fun v4 y187 y188 y189 y190 y191 y192 y193 y194 y195 y196 y197 y198 y199 y200 y201 y202 y203 y204 y205 y206 y207 y208 y209 y210 y211 y212 y213 y214 y215 y216 y217 hb4 => ?_)
                have HV4 := Hid.mk' hb4
                clear hb4 HLs
                obtain ⟨S3, H3, hD3, hB3⟩ := HEnd.out _ (then_ HV.out HV4.out)
                have HD3 := Hid.mk' hD3; have HB3 := Hid.mk' hB3
                clear hD3 hB3
                go_wp2
                go_roundw
                case rel => exact ⟨i + 1, s', S3, H3, by omega, by go_num, HD3.out, HKs.out, by omega, HB3.out⟩
                case measure => simp [intOf]; omega
      · obtain rfl : i = l.length := by omega
        go_wp2
        go_ret
        exact ⟨rfl, HB.out⟩
end Go.Proofs.YtankilclhknbkaaDoor
