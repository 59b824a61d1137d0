/- Small texts, one behind the other: JlB, JlC, StA, TuLw, TuRg, StRm. -/
import Derived.Test.YtdclmpdjjkjfjaaGreatDoorPk18
import Derived.Deep.RegionLaw
import Derived.Test.YtdclmpdjjkjfjaaGreatDoorPk6
import Derived.Test.YtdclmpdjjkjfjaaGreatDoorPk17
import Derived.Test.YtdclmpdjjkjfjaaGreatDoorTuA
import Derived.Test.YtdclmpdjjkjfjaaGreatDoorPk13
/- Package journal, walked: a log's Write and Crash. -/
namespace Go.Proofs.YtdclmpdjjkjfjaaGreatDoor
open Go.RowKit

section
variable {w w' : World} {base g : Nat} {b : List UInt8} {sure : Nat} {ao : Option Addr} {ca : Nat}
/-- what a step may turn of a log -/
def LgF (g : Nat) (ao : Option Addr) : Nat → Prop := fun k => k = g ∨ blockOf ao = some k
theorem LogAt.wrote (h : LogAt w base g b sure ao ca) {x : List UInt8} {n : Nat} {ao' : Option Addr} {ca' : Nat} {w3 : World} (hO : OwnB w3 base 5 ao' ca' (b ++ x)) (hG : w.grownBy w3 (blockOf ao)) (hat : blockOf ao' = blockOf ao ∨ blockOf ao' = some w.heap.size) (hn : n = (b ++ x).length) (hf : n ≤ 100000) :
    w3.heap[g]? = some (.cells #[.slice ao b.length ca, .int .i64 (sure : Int)] 98 (0, 0)) ∧ LogAt (w3.setCell ⟨g, 0, none⟩ (.slice ao' n ca')) base g (b ++ x) sure ao' ca' ∧ Turns (LgF g ao) w (w3.setCell ⟨g, 0, none⟩ (.slice ao' n ca')) := by
  have hne : some g ≠ blockOf ao := fun e => by
    cases ao with
    | none => cases e
    | some a => injection e with e; exact h.apart a rfl e.symm
  have hr : w3.heap[g]? = some (.cells #[.slice ao b.length ca, .int .i64 (sure : Int)] 98 (0, 0)) := (hG.block g h.lt hne).trans h.row
  have ht : Turns (fun k => k = g) w3 (w3.setCell ⟨g, 0, none⟩ (.slice ao' n ca')) := Turns.setCell _ w3 _ _ rfl
  have hne' : ∀ a, ao' = some a → ¬ a.block = g := fun a e e2 => by
    rcases hat with hat | hat
    · rw [e] at hat; exact hne (by rw [← hat, ← e2]; rfl)
    · rw [e] at hat; injection hat with hat
      have := h.lt; omega
  subst hn
  refine ⟨hr, ⟨heap_setCell_same w3 g 0 _ _ _ hr, hO.turns ht hne', h.low, by rw [List.length_append]; have := h.le; omega, hf⟩, (Turns.of_grown (S := LgF g ao) hG (fun k e => Or.inr e)).trans ht (fun k e _ => Or.inl e)⟩
set_option maxHeartbeats 1000000 in
theorem writeLog_yes (h : LogAt w base g b sure ao ca) (xo : Option Addr) (xc n : Nat) (x : List UInt8) (hx : IsB w xo xc x) (hn : x.length = n) (hf : b.length + n ≤ 100000) : Calls Tryz.prog 144 #[.pointer (some ⟨g, 0, none⟩), .slice xo n xc] w fun e w' => ∃ ao' ca', e = .returned (.int .i64 0) ∧ LogAt w' base g (b ++ x) sure ao' ca' ∧ Turns (LgF g ao) w w' ∧ (blockOf ao' = blockOf ao ∨ blockOf ao' = some w.heap.size) := by
  obtain ⟨⟨c0, c1⟩, f0, f1⟩ := row2 h.row
  have HX := Hid.mk' hx
  have HR : Hid (Calls Tryz.prog 114 #[.pointer (some ⟨g, 0, none⟩), .int .i64 (n : Int)] w fun e w' => e = .returned (.bool true) ∧ w' = w) := by
    have := roomLog_any h (n : Int)
    rw [decide_eq_true (by omega), decide_eq_true (by omega)] at this
    exact this
  obtain ⟨i0, hi0, hz0, hz1, hz2⟩ := info_parts info_u8
  have Hi := Hid.mk' hi0; have Hz0 := Hid.mk' hz0; have Hz1 := Hid.mk' hz1; have Hz2 := Hid.mk' hz2
  have HW : Hid (∀ ao' ca' w3, OwnB w3 base 5 ao' ca' (b ++ x) → w.grownBy w3 (blockOf ao) → (blockOf ao' = blockOf ao ∨ blockOf ao' = some w.heap.size) → w3.heap[g]? = some (.cells #[.slice ao b.length ca, .int .i64 (sure : Int)] 98 (0, 0)) ∧ LogAt (w3.setCell ⟨g, 0, none⟩ (.slice ao' (b.length + n) ca')) base g (b ++ x) sure ao' ca' ∧ Turns (LgF g ao) w (w3.setCell ⟨g, 0, none⟩ (.slice ao' (b.length + n) ca'))) := fun ao' ca' w3 hO hG hat => h.wrote hO hG hat (by rw [List.length_append, hn]) hf
  have HO := Hid.mk' h.own
  have hbs : base ≤ w.heap.size := by have := h.low; have := h.lt; omega
  have HN := Hid.mk' hn
  obtain ⟨m, hm⟩ : ∃ m, b.length = m := ⟨_, rfl⟩
  have HM := Hid.mk' hm
  rw [hm] at c0 hf HW
  clear h hx hn hm hi0 hz0 hz1 hz2
  go_enter Tryz.func144, Tryz.ntmps144
  go_wp2_with (first
    | (go_at_call 114; refine HR.out.mono ?_; rintro e w2 ⟨rfl, hw⟩; rw [hw]; clear hw)
    | (at_builtin; refine wpList_append_at rfl (.tmp 14) (.tmp 15) 30 rfl base 5 i0 Tryz.underlying30 Hi.out Hz0.out Hz1.out Hz2.out (l := b) (l2 := x) rfl HM.out HO.out rfl HN.out HX.out (by omega) hbs ?_; intro a3 c3 w3 hO3 hG3 hat3; obtain ⟨r3, l3, t3⟩ := HW.out a3 c3 w3 hO3 hG3 hat3; obtain ⟨⟨d0, d1⟩, e0, e1⟩ := row2 r3; have HL3 := Hid.mk' (And.intro l3 (And.intro t3 hat3)); clear hO3 hG3 hat3 r3 l3 t3))
  go_ret
  exact ⟨a3, c3, rfl, HL3.out⟩
theorem writeLog_no (h : LogAt w base g b sure ao ca) (xo : Option Addr) (xc n : Nat) (hf : ¬ b.length + n ≤ 100000) : Calls Tryz.prog 144 #[.pointer (some ⟨g, 0, none⟩), .slice xo n xc] w fun e w' => e = .returned (.int .i64 16) ∧ w' = w := by
  have HR : Hid (Calls Tryz.prog 114 #[.pointer (some ⟨g, 0, none⟩), .int .i64 (n : Int)] w fun e w' => e = .returned (.bool false) ∧ w' = w) := by
    have := roomLog_any h (n : Int)
    rw [decide_eq_true (show (0 : Int) ≤ n by omega), decide_eq_false (by omega)] at this
    exact this
  clear h hf
  go_enter Tryz.func144, Tryz.ntmps144
  go_wp2_with (go_at_call 114; refine HR.out.mono ?_; rintro e w2 ⟨rfl, hw⟩; rw [hw]; clear hw)
  go_ret
  exact ⟨rfl, rfl⟩
/-- how many bytes that are not made sure of a crash leaves -/
def stay_ (keep : Int) (d : Nat) : Nat := min (max keep 0).toNat d
set_option maxHeartbeats 2000000 in
theorem crashLog_any (h : LogAt w base g b sure ao ca) (keep : Int) : Calls Tryz.prog 45 #[.pointer (some ⟨g, 0, none⟩), .int .i64 keep] w fun e w' => e = .returned (.tuple #[]) ∧ LogAt w' base g (b.take (sure + stay_ keep (b.length - sure))) (sure + stay_ keep (b.length - sure)) ao ca ∧ Turns (fun k => k = g) w w' := by
  obtain ⟨⟨c0, c1⟩, f0, f1⟩ := row2 h.row
  have hle := h.le
  have hfew := h.few
  have hd : stay_ keep (b.length - sure) ≤ b.length - sure := by unfold stay_; omega
  have HDr : Hid (∀ W, Below w.heap.size w W → LogAt W base g b sure ao ca) := fun W hW => h.stay hW
  have HSt : Hid ((stay_ keep (b.length - sure) : Int) = if keep < 0 then 0 else if (b.length : Int) - sure < keep then (b.length : Int) - sure else keep) := by
    unfold Hid stay_
    split
    · omega
    · split <;> omega
  have hw1 : IntKind.i64.wrap ((b.length : Int) - sure) = (b.length : Int) - sure := wrap_id (by omega) (by omega)
  have HCut : Hid (∀ W, Below w.heap.size w W → Calls Tryz.prog 47 #[.pointer (some ⟨g, 0, none⟩), .int .i64 ((sure : Int) + (stay_ keep (b.length - sure) : Int))] W fun e w' => e = .returned (.tuple #[]) ∧ LogAt w' base g (b.take (sure + stay_ keep (b.length - sure))) sure ao ca ∧ Turns (fun k => k = g) W w') := fun W hW => by
    have hL := HDr.out W hW
    by_cases hc : sure + stay_ keep (b.length - sure) < b.length
    · have := cutLog_yes hL (sure + stay_ keep (b.length - sure)) hc
      rw [show min sure (sure + stay_ keep (b.length - sure)) = sure by omega] at this
      simpa using this
    · have e : sure + stay_ keep (b.length - sure) = b.length := by omega
      rw [e, List.take_length]
      refine (cutLog_no hL _ (by omega)).mono fun e w' ⟨h1, h2⟩ => ⟨h1, by rw [h2]; exact hL, by rw [h2]; exact Turns.refl _ _⟩
  have HTk : Hid ((b.take (sure + stay_ keep (b.length - sure))).length = sure + stay_ keep (b.length - sure)) := by unfold Hid; rw [List.length_take]; omega
  clear h
  generalize b.take (sure + stay_ keep (b.length - sure)) = bt at *
  generalize stay_ keep (b.length - sure) = st at *
  have hst : sure + st ≤ 100000 := by omega
  generalize b.length = m at *
  go_enter Tryz.func45, Tryz.ntmps45
  go_upto_region 0 with fail
  go_cut [4] (fun v wd => v = .int .i64 (st : Int) ∧ Below w.heap.size w wd)
  case first =>
    have HBd : Hid (Below w.heap.size w w.drew) := below_drew _ _
    by_cases hk : keep < 0
    · have e : (st : Int) = 0 := by have := HSt.out; rwa [if_pos hk] at this
      have hk0 : ¬ (m : Int) - sure < 0 := by omega
      go_region
      all_goals
        go_wp2
        go_meet
        exact ⟨by rw [e], HBd.out⟩
    · by_cases hk2 : (m : Int) - sure < keep
      · have e : (st : Int) = (m : Int) - sure := by have := HSt.out; rwa [if_neg hk, if_pos hk2] at this
        go_region
        all_goals
          go_wp2
          go_meet
          exact ⟨by rw [e], HBd.out⟩
      · have e : (st : Int) = keep := by have := HSt.out; rwa [if_neg hk, if_neg hk2] at this
        go_region
        all_goals
          go_wp2
          go_meet
          exact ⟨by rw [e], HBd.out⟩
  case rest =>
    obtain ⟨rfl, hB⟩ := hcut
    have hL := HDr.out wc hB
    obtain ⟨⟨d0, d1⟩, _⟩ := row2 hL.row
    have HC := Hid.mk' (HCut.out wc hB)
    have HB := Hid.mk' hB
    have hwz : IntKind.i64.wrap ((sure : Int) + st) = (sure : Int) + st := wrap_id (by omega) (by omega)
    clear hL hB c0 c1 f0 f1 HSt
    have HSy : Hid (∀ W, LogAt W base g bt sure ao ca → Calls Tryz.prog 68 #[.pointer (some ⟨g, 0, none⟩)] W fun e w' => e = .returned (.tuple #[]) ∧ LogAt w' base g bt (sure + st) ao ca ∧ Turns (fun k => k = g) W w') := fun W hW => by
      have := syncLog_any hW
      rw [HTk.out] at this; exact this
    go_wp2_with (first
      | (go_at_call 47; refine HC.out.mono ?_; rintro e w3 ⟨rfl, hL3, ht3⟩; have HL3 := Hid.mk' hL3; have HT3 := Hid.mk' ht3; clear hL3 ht3)
      | (go_at_call 68; refine (HSy.out _ HL3.out).mono ?_; rintro e w4 ⟨rfl, hL4, ht4⟩; have HL4 := Hid.mk' hL4; have HT4 := Hid.mk' ht4; clear hL4 ht4))
    go_end0
    exact ⟨rfl, HL4.out, ((Turns.of_below HB.out).trans HT3.out (fun _ e _ => e)).trans HT4.out (fun _ e _ => e)⟩
end
end Go.Proofs.YtdclmpdjjkjfjaaGreatDoor

/- What JournalLogs holds: a log, and beside it the same bytes of its own. -/
namespace Go.Proofs.YtdclmpdjjkjfjaaGreatDoor
open Go.RowKit

theorem LogAt.turns {w w' : World} {base g : Nat} {b : List UInt8} {sure : Nat} {ao : Option Addr} {ca : Nat} {S : Nat → Prop} (h : LogAt w base g b sure ao ca) (ht : Turns S w w') (hg : ¬ S g) (ha : ∀ a, ao = some a → ¬ S a.block) : LogAt w' base g b sure ao ca := ⟨ht.row h.row hg, h.own.turns ht ha, h.low, h.le, h.few⟩
structure LgAt (w W : World) (g : Nat) (b : List UInt8) (sure : Nat) (ao : Option Addr) (ca : Nat) (bo : Option Addr) (bc : Nat) : Prop where
  log : LogAt W w.heap.size g b sure ao ca
  own : OwnB W w.heap.size 5 bo bc b
  apart : ∀ k, blockOf ao = some k → blockOf bo ≠ some k
  below : Below w.heap.size w W
section
variable {w W w2 w3 : World} {g : Nat} {b x : List UInt8} {sure : Nat} {ao ao' : Option Addr} {ca ca' : Nat} {bo bo' : Option Addr} {bc bc' : Nat}
theorem LgAt.stay (h : LgAt w W g b sure ao ca bo bc) (hb : Below W.heap.size W w2) : LgAt w w2 g b sure ao ca bo bc := ⟨h.log.stay hb, h.own.stay hb, h.apart, then_ h.below hb⟩
theorem LgAt.gne (h : LgAt w W g b sure ao ca bo bc) : ∀ a, bo = some a → a.block ≠ g := by
  intro a e e2
  have := row_ne h.log.row h.own t_log
  rw [ownBlock_slice, e] at this
  exact this (by rw [← e2]; rfl)
theorem LgAt.base (h : LgAt w W g b sure ao ca bo bc) : w.heap.size ≤ W.heap.size := h.below.size
/-- what a step of the log leaves of the law's own bytes -/
theorem LgAt.kept (h : LgAt w W g b sure ao ca bo bc) (hT : Turns (LgF g ao) W w2) : OwnB w2 w.heap.size 5 bo bc b ∧ Below w.heap.size w w2 := by
  refine ⟨h.own.turns hT (fun a e e2 => ?_), h.below.trans (hT.below (fun k e => ?_) h.base)⟩
  · rcases e2 with e2 | e2
    · exact h.gne a e e2
    · exact h.apart _ e2 (by rw [e]; rfl)
  · rcases e with e | e
    · rw [e]; exact h.log.low
    · cases ao with
      | none => cases e
      | some a => injection e with e; have := (h.log.own.block a rfl).1; omega
theorem LgAt.write (h : LgAt w W g b sure ao ca bo bc) (hL : LogAt w2 w.heap.size g (b ++ x) sure ao' ca') (hT : Turns (LgF g ao) W w2) (hat : blockOf ao' = blockOf ao ∨ blockOf ao' = some W.heap.size) (hO : OwnB w3 w.heap.size 5 bo' bc' (b ++ x)) (hG : w2.grownBy w3 (blockOf bo)) (hat2 : blockOf bo' = blockOf bo ∨ blockOf bo' = some w2.heap.size) : LgAt w w3 g (b ++ x) sure ao' ca' bo' bc' := by
  obtain ⟨hk, hb2⟩ := h.kept hT
  have ht3 : Turns (fun k => blockOf bo = some k) w2 w3 := Turns.of_grown hG (fun k e => e)
  have hap : ∀ k, blockOf ao' = some k → blockOf bo ≠ some k := fun k e e2 => by
    rcases hat with hat | hat
    · exact h.apart k (hat ▸ e) e2
    · rw [hat] at e; injection e with e
      cases bo with
      | none => cases e2
      | some a => injection e2 with e2; have := (h.own.block a rfl).2; omega
  refine ⟨hL.turns ht3 (fun e => ?_) (fun a e e2 => hap _ (by rw [e]; rfl) e2), hO, fun k e e2 => ?_, hb2.trans (grown_base hk hG hb2.size)⟩
  · cases bo with
    | none => cases e
    | some a => injection e with e; exact h.gne a rfl e
  · rcases hat2 with hat2 | hat2
    · exact hap k e (hat2 ▸ e2)
    · rw [hat2] at e2; injection e2 with e2
      cases ao' with
      | none => cases e
      | some a => injection e with e; have := (hL.own.block a rfl).2; omega
theorem LgAt.turn {n sure' : Nat} (h : LgAt w W g b sure ao ca bo bc) (hn : n ≤ b.length) (hL : LogAt w2 w.heap.size g (b.take n) sure' ao ca) (hT : Turns (fun k => k = g) W w2) : LgAt w w2 g (b.take n) sure' ao ca bo bc := by
  obtain ⟨hk, hb⟩ := h.kept (hT.mono (fun k e => Or.inl e))
  exact ⟨hL, hk.less n hn, h.apart, hb⟩
theorem LgAt.same {sure' : Nat} (h : LgAt w W g b sure ao ca bo bc) (hL : LogAt w2 w.heap.size g b sure' ao ca) (hT : Turns (fun k => k = g) W w2) : LgAt w w2 g b sure' ao ca bo bc := by
  obtain ⟨hk, hb⟩ := h.kept (hT.mono (fun k e => Or.inl e))
  exact ⟨hL, hk, h.apart, hb⟩
/-- a block that was made behind all of it stays -/
theorem LgAt.far (h : LgAt w W g b sure ao ca bo bc) : ∀ k, LgF g ao k → k < W.heap.size := fun k e => by
  rcases e with e | e
  · rw [e]; exact h.log.lt
  · cases ao with
    | none => cases e
    | some a => injection e with e; have := (h.log.own.block a rfl).2; omega
end
end Go.Proofs.YtdclmpdjjkjfjaaGreatDoor

/- A store, as an object: what it holds in memory, and what becomes of it. -/
namespace Go.Proofs.YtdclmpdjjkjfjaaGreatDoor
open Go.RowKit

/-- a store at block g: its spool at gs, its log at gl, each among blocks of its own -/
structure StIn (w : World) (S : Nat → Prop) (g gs gl : Nat) (ao : Option Addr) (ca : Nat) (P : Nat → Prop) (s : Sr.Sh) : Prop where
  row : w.heap[g]? = some (.cells #[.pointer (some ⟨gs, 0, none⟩), .pointer (some ⟨gl, 0, none⟩)] 48 (0, 0))
  spool : SpoolAt w P gs s.h
  log : LogAt w 0 gl s.log s.sure ao ca
  self : S g
  inP : ∀ k, P k → S k ∧ k ≠ g ∧ ¬ LgF gl ao k
  inL : ∀ k, LgF gl ao k → S k ∧ k ≠ g
def StAt (w : World) (S : Nat → Prop) (g : Nat) (s : Sr.Sh) : Prop := ∃ gs gl ao ca P, StIn w S g gs gl ao ca P s
section
variable {w w' w1 w2 w3 : World} {S S' P P' : Nat → Prop} {g gs gl : Nat} {ao : Option Addr} {ca : Nat} {s : Sr.Sh}
theorem StIn.far (h : StIn w S g gs gl ao ca P s) : ∀ k, LgF gl ao k → k < w.heap.size := fun k e => by
  rcases e with e | e
  · rw [e]; exact h.log.lt
  · cases ao with
    | none => cases e
    | some a => injection e with e; subst e; exact (h.log.own.block a rfl).2
theorem StIn.lt (h : StIn w S g gs gl ao ca P s) : g < w.heap.size := (Array.getElem?_eq_some_iff.1 h.row).1
theorem StIn.turns (h : StIn w S g gs gl ao ca P s) (ht : Turns S' w w') (hs : ∀ k, S k → ¬ S' k) : StIn w' S g gs gl ao ca P s :=
  ⟨ht.row h.row (hs g h.self), h.spool.turns ht (fun k e => hs k (h.inP k e).1), h.log.turns ht (hs _ (h.inL gl (Or.inl rfl)).1) (fun a e => hs _ (h.inL a.block (Or.inr (by rw [e]; rfl))).1), h.self, h.inP, h.inL⟩
theorem StIn.stay (h : StIn w S g gs gl ao ca P s) (hb : Below w.heap.size w w') : StIn w' S g gs gl ao ca P s := h.turns (Turns.of_below (S := fun _ => False) hb) (fun _ _ e => e)
theorem StIn.mono (h : StIn w S g gs gl ao ca P s) (hs : ∀ k, k < w.heap.size → S k → S' k) : StIn w S' g gs gl ao ca (fun k => P k ∧ k < w.heap.size) s :=
  ⟨h.row, h.spool.mono (fun _ hk e => ⟨e, hk⟩), h.log, hs g h.lt h.self, fun k e => ⟨hs k e.2 (h.inP k e.1).1, (h.inP k e.1).2⟩, fun k e => ⟨hs k (h.far k e) (h.inL k e).1, (h.inL k e).2⟩⟩
theorem StAt.turns (h : StAt w S g s) (ht : Turns S' w w') (hs : ∀ k, S k → ¬ S' k) : StAt w' S g s := by
  obtain ⟨gs, gl, ao, ca, P, h⟩ := h
  exact ⟨gs, gl, ao, ca, P, h.turns ht hs⟩
theorem StAt.stay (h : StAt w S g s) (hb : Below w.heap.size w w') : StAt w' S g s := h.turns (Turns.of_below (S := fun _ => False) hb) (fun _ _ e => e)
theorem StAt.mono (h : StAt w S g s) (hs : ∀ k, k < w.heap.size → S k → S' k) : StAt w S' g s := by
  obtain ⟨gs, gl, ao, ca, P, h⟩ := h
  exact ⟨gs, gl, ao, ca, _, h.mono hs⟩
theorem StAt.lt (h : StAt w S g s) : g < w.heap.size := by
  obtain ⟨gs, gl, ao, ca, P, h⟩ := h
  exact h.lt
end
/-- what a step answered, and what became of the object -/
structure StDid (S : Nat → Prop) (w : World) (g : Nat) (r : Sr.Sh × Nat) (e : Ending) (w' : World) : Prop where
  ret : e = .returned (.int .i64 (r.2 : Int))
  at_ : StAt w' (orNew S w) g r.1
  turns : Turns S w w'
section
variable {w w' w1 w2 w3 : World} {S S' P P' : Nat → Prop} {g gs gl : Nat} {ao : Option Addr} {ca : Nat} {s : Sr.Sh}
theorem StDid.none_ {c : Nat} (h : StAt w S g s) (hb : Below w.heap.size w w') {r : Sr.Sh × Nat} (hr : r = (s, c)) : StDid S w g r (.returned (.int .i64 (c : Int))) w' := by
  subst hr
  exact ⟨rfl, (h.stay hb).mono (fun k _ e => Or.inl e), Turns.of_below hb⟩
theorem StDid.from_ {r : Sr.Sh × Nat} {e : Ending} (hb : Below w.heap.size w w1) (h : StDid S w1 g r e w') : StDid S w g r e w' := by
  have hsz := hb.size
  refine ⟨h.ret, h.at_.mono (fun k _ e => ?_), (Turns.of_below hb).trans h.turns (fun _ e _ => e)⟩
  rcases e with e | e
  · exact Or.inl e
  · exact Or.inr (by omega)
/-- another spool, all new, and the log as it was turned -/
theorem StIn.laid {gs' : Nat} {s' : Sp.St} {log' : List UInt8} {sure' : Nat} {ao' : Option Addr} {ca' : Nat} (h : StIn w S g gs gl ao ca P s) (hb : Below w.heap.size w w1) (hS : SpoolAt w1 (fun k => w.heap.size ≤ k) gs' s') (hL : LogAt w2 0 gl log' sure' ao' ca') (ht : Turns (LgF gl ao) w1 w2) (hat : blockOf ao' = blockOf ao ∨ blockOf ao' = some w1.heap.size) :
    w2.heap[g]? = some (.cells #[.pointer (some ⟨gs, 0, none⟩), .pointer (some ⟨gl, 0, none⟩)] 48 (0, 0)) ∧ StAt (w2.setCell ⟨g, 0, none⟩ (.pointer (some ⟨gs', 0, none⟩))) (orNew S w) g ⟨s', log', sure'⟩ ∧ Turns S w (w2.setCell ⟨g, 0, none⟩ (.pointer (some ⟨gs', 0, none⟩))) := by
  have hsz := hb.size
  have hfar := h.far
  have hlt := h.lt
  have hT2 : Turns (LgF gl ao) w w2 := (Turns.of_below hb).trans ht (fun _ e _ => e)
  have hr : w2.heap[g]? = some (.cells #[.pointer (some ⟨gs, 0, none⟩), .pointer (some ⟨gl, 0, none⟩)] 48 (0, 0)) := hT2.row h.row (fun e => (h.inL g e).2 rfl)
  have hg : Turns (fun k => k = g) w2 (w2.setCell ⟨g, 0, none⟩ (.pointer (some ⟨gs', 0, none⟩))) := Turns.setCell (fun k => k = g) w2 _ _ rfl
  have hL' : ∀ k, LgF gl ao' k → LgF gl ao k ∨ k = w1.heap.size := fun k e => by
    rcases e with e | e
    · exact Or.inl (Or.inl e)
    · rcases hat with a | a
      · exact Or.inl (Or.inr (a ▸ e))
      · rw [a] at e; injection e with e; exact Or.inr e.symm
  refine ⟨hr, ⟨gs', gl, ao', ca', fun k => w.heap.size ≤ k ∧ k < w1.heap.size, ?_, ?_, ?_, Or.inl h.self, fun k e => ⟨Or.inr e.1, by omega, fun e2 => ?_⟩, fun k e => ?_⟩, ?_⟩
  · exact heap_setCell_same w2 g 0 _ _ _ hr
  · exact ((hS.mono (S' := fun k => w.heap.size ≤ k ∧ k < w1.heap.size) (fun k hk e => ⟨e, hk⟩)).turns ht (fun k e e2 => by have := hfar k e2; omega)).turns hg (fun k e e2 => by subst e2; omega)
  · refine hL.turns hg (fun e => (h.inL gl (Or.inl rfl)).2 e) (fun a e e2 => ?_)
    rcases hL' a.block (Or.inr (by rw [e]; rfl)) with e3 | e3
    · exact (h.inL _ e3).2 e2
    · omega
  · rcases hL' k e2 with e3 | e3
    · have := hfar k e3; omega
    · omega
  · rcases hL' k e with e3 | e3
    · exact ⟨Or.inl (h.inL k e3).1, (h.inL k e3).2⟩
    · exact ⟨Or.inr (by omega), by omega⟩
  · exact (hT2.mono (fun k e => (h.inL k e).1)).trans (hg.mono (fun k e => by subst e; exact h.self)) (fun _ e _ => e)
end
end Go.Proofs.YtdclmpdjjkjfjaaGreatDoor

/- What the laws of uploads in pieces ask of package tus: Do and Ours, as contracts that a text of its own proves. -/
namespace Go.Proofs.YtdclmpdjjkjfjaaGreatDoor
open Go.RowKit

theorem stLaw : ObLaw StAt := ⟨StAt.turns, StAt.mono⟩
/-- what Do is asked to do, wherever nothing that was there ahead of world w0 has turned -/
def DoIs (w0 : World) : Prop := ∀ {w : World} {S : Nat → Prop} {g : Nat} {s : Sr.Sh}, Below w0.heap.size w0 w → (∀ k, S k → w0.heap.size ≤ k) → StAt w S g s → Sr.Ok s → s.log.length ≤ 99000 → ∀ (m t : ByteArray) (mi ln : Int) (l : List (ByteArray × ByteArray)) (fo : Option Addr) (fcap : Nat), IsV w fo fcap l.length (pairV l) → l.length ≤ 1000 → (∀ p ∈ l, p.1.size ≤ 2000 ∧ p.2.size ≤ 2000) → ∀ (bo : Option Addr) (bcap : Nat) (body : List UInt8), IsB w bo bcap body → body.length ≤ 100000 → m.size ≤ 100000 → t.size ≤ 100000 →
  Calls Tryz.prog 10 #[.pointer (some ⟨g, 0, none⟩), .agg #[.string m, .string t, .int .i64 mi, .slice fo l.length fcap, .int .i64 ln], .slice bo body.length bcap] w fun e w' => TuDid StAt S w g (Tu.tus s m t l body) e w'
/-- is a target ours? -/
def Tu.ours (t : ByteArray) : Bool := decide (t = Tu.bFiles) || (decide (7 ≤ t.size) && decide (t.data.toList.take 7 = Tu.bFilesS.data.toList))
def OursIs (w0 : World) : Prop := ∀ {w : World}, Below w0.heap.size w0 w → ∀ t : ByteArray, t.size ≤ 100000 → Calls Tryz.prog 17 #[.string t] w fun e w' => e = .returned (.bool (Tu.ours t)) ∧ Below w.heap.size w w'
theorem DoIs.from_ {w0 w1 : World} (h : DoIs w0) (hb : Below w0.heap.size w0 w1) : DoIs w1 := fun hw hS => h (then_ hb hw) (fun k e => Nat.le_trans hb.size (hS k e))
theorem OursIs.from_ {w0 w1 : World} (h : OursIs w0) (hb : Below w0.heap.size w0 w1) : OursIs w1 := fun hw => h (then_ hb hw)
/-- a request of a law, in its bounds -/
theorem SmallA.one {l : List Aq} (h : SmallA l) {q : Aq} (hq : q ∈ l) : q.fl.length ≤ 1000 ∧ (∀ p ∈ q.fl, p.1.size ≤ 2000 ∧ p.2.size ≤ 2000) ∧ q.body.length ≤ 100000 ∧ q.m.size ≤ 100000 ∧ q.t.size ≤ 100000 := by
  have h1 := h.fields q hq
  have h2 := aqN_mem l q hq
  have h3 := h.sum
  unfold aqz at h2
  exact ⟨by have := h1.1; omega, fun p hp => by have := h1.2 p hp; omega, by omega, by omega, by omega⟩
/-- how long a log can be behind k requests of a law -/
def LogIn (l : List Aq) (k : Nat) (s : Sr.Sh) : Prop := s.log.length ≤ aqN (l.take k) + 120 * k
theorem LogIn.new (l : List Aq) : LogIn l 0 Sr.new := by unfold LogIn; show 0 ≤ _; omega
theorem LogIn.step {l : List Aq} {k : Nat} {s : Sr.Sh} (h : LogIn l k s) (hk : k < l.length) : LogIn l (k + 1) (Tu.tus s l[k].m l[k].t l[k].fl l[k].body).1 := by
  unfold LogIn at h ⊢
  have h1 := Tu.tus_log s l[k].m l[k].t l[k].fl l[k].body
  rw [aqN_take l k hk]
  unfold aqz
  omega
theorem aqN_take_le (l : List Aq) (k : Nat) : aqN (l.take k) ≤ aqN l := by
  unfold aqN
  have := List.take_append_drop k l
  conv => rhs; rw [← this, List.map_append, List.sum_append]
  omega
theorem LogIn.few {l : List Aq} {k : Nat} {s : Sr.Sh} (h : LogIn l k s) (hs : SmallA l) (hk : k ≤ l.length) : s.log.length ≤ 99000 := by
  unfold LogIn at h
  have := aqN_take_le l k; have := hs.sum; have := hs.few
  omega
end Go.Proofs.YtdclmpdjjkjfjaaGreatDoor

/- Regions that make a box for a reply: what is known of boxes and of worlds, at each step. -/
namespace Go.Proofs.YtdclmpdjjkjfjaaGreatDoor
open Go.RowKit

def BegunIs (w0 : World) : Prop := ∀ {w : World}, Below w0.heap.size w0 w → Calls Tryz.prog 6 #[] w fun e w' => e = .returned (.bool true) ∧ Below w.heap.size w w'
theorem belA {w1 W : World} (h : Below w1.heap.size w1 W) (o : Obj) : Below w1.heap.size w1 (W.alloc o) := then_ h ((Below.refl _ W).alloc (Nat.le_refl _) o)
theorem belS {w1 W : World} (h : Below w1.heap.size w1 W) {b o : Nat} {v : Value} (hb : w1.heap.size ≤ b) : Below w1.heap.size w1 (W.setCell ⟨b, o, none⟩ v) := h.setCell (p := ⟨b, o, none⟩) hb v
/-- a reply's box, empty -/
theorem box6 {W : World} {b : Nat} (h : W.heap[b]? = some (.cells #[.int .i64 0, .slice none 0 0, .slice none 0 0] 32)) : W.cell? ⟨b, 0, none⟩ = some (.int .i64 0) ∧ W.cell? ⟨b, 1, none⟩ = some (.slice none 0 0) ∧ W.cell? ⟨b, 2, none⟩ = some (.slice none 0 0) ∧ W.frozen? ⟨b, 0, none⟩ = false ∧ W.frozen? ⟨b, 1, none⟩ = false ∧ W.frozen? ⟨b, 2, none⟩ = false :=
  ⟨cell_of_row W _ 0 _ _ _ h, cell_of_row W _ 1 _ _ _ h, cell_of_row W _ 2 _ _ _ h, frozen_of_row W _ 0 _ _ h, frozen_of_row W _ 1 _ _ h, frozen_of_row W _ 2 _ _ h⟩
theorem rowA {W : World} {b : Nat} {o : Obj} (h : W.heap[b]? = some o) (z : Obj) : (W.alloc z).heap[b]? = some o := (((Below.refl _ W).alloc (Nat.le_refl _) z).block b (Array.getElem?_eq_some_iff.1 h).1).trans h
theorem rowN (W : World) (z : Obj) {k : Nat} (hk : W.heap.size = k) : (W.alloc z).heap[k]? = some z := hk ▸ heap_alloc_new W z
theorem row_lt {W : World} {b : Nat} {o : Obj} (h : W.heap[b]? = some o) : b < W.heap.size := (Array.getElem?_eq_some_iff.1 h).1
section
variable {w1 W W' : World} {b : Nat}
theorem own_set {r : List (ByteArray × ByteArray)} {a : Option Addr} {k n : Nat} {c : Array Value} (h : OwnV W w1.heap.size 58 2 a k n (pairV r)) (hr : W.heap[b]? = some (.cells c 32 (0, 0))) (ht : Turns (fun k => k = b) W W') : OwnV W' w1.heap.size 58 2 a k n (pairV r) := by
  have nz := row_ne hr h (by decide)
  rw [ownBlock_slice] at nz
  exact h.turns ht (fun x e e2 => nz (by rw [e]; show some x.block = _; rw [e2]))
theorem set3 {c : Array Value} (hr : W.heap[b]? = some (.cells #[c[0]!, c[1]!, c[2]!] 32 (0, 0))) (v0 v1 v2 : Value) : Turns (fun k => k = b) W (((W.setCell ⟨b, 0, none⟩ v0).setCell ⟨b, 1, none⟩ v1).setCell ⟨b, 2, none⟩ v2) ∧ (((W.setCell ⟨b, 0, none⟩ v0).setCell ⟨b, 1, none⟩ v1).setCell ⟨b, 2, none⟩ v2).heap[b]? = some (.cells #[v0, v1, v2] 32 (0, 0)) :=
  ⟨setCells_turns b [v0, v1, v2] 0 W, heap_setCell_same _ b 2 _ _ v2 (heap_setCell_same _ b 1 _ _ v1 (heap_setCell_same W b 0 _ _ v0 hr))⟩
end
end Go.Proofs.YtdclmpdjjkjfjaaGreatDoor

/- Package store, walked: Room. -/
namespace Go.Proofs.YtdclmpdjjkjfjaaGreatDoor
open Go.RowKit

section
variable {s : Sr.Sh} {S : Nat → Prop} {g : Nat} {w : World}
theorem roomSt_any (h : StAt w S g s) (n : Int) :
    Calls Tryz.prog 84 #[.pointer (some ⟨g, 0, none⟩), .int .i64 n] w fun e w' => e = .returned (.bool (decide (0 ≤ n) && decide (n ≤ 100000 - (s.log.length : Int)))) ∧ w' = w := by
  obtain ⟨gs, gl, ao, ca, P, hI⟩ := h
  obtain ⟨⟨c0, c1⟩, _⟩ := row2 hI.row
  have HR := Hid.mk' (roomLog_any hI.log n)
  clear hI
  generalize (decide (0 ≤ n) && decide (n ≤ 100000 - (s.log.length : Int))) = r at *
  go_enter Tryz.func84, Tryz.ntmps84
  go_wp2_with fail
  refine HR.out.mono ?_
  rintro e w1 ⟨rfl, hw⟩
  rw [hw]; clear hw
  go_wp2
  go_ret
  exact ⟨rfl, rfl⟩
end
end Go.Proofs.YtdclmpdjjkjfjaaGreatDoor
