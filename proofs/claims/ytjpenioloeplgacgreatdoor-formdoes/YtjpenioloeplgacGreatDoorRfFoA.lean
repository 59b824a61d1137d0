/- The document's own answer for forms: what its walk keeps in memory; its closure that fails. -/
import Derived.Test.YtjpenioloeplgacGreatDoorPk7
import Derived.Test.YtjpenioloeplgacGreatDoorMemK
import Derived.Test.YtjpenioloeplgacGreatDoorPk17
import Derived.Test.YtjpenioloeplgacGreatDoorPk6
import Derived.Test.YtjpenioloeplgacGreatDoorPk9
namespace Go.Proofs.YtjpenioloeplgacGreatDoor
open Go.RowKit

/-- the cell that holds what was told, and what it holds -/
structure FoAt (w : World) (ao : Option Addr) (cap n : Nat) (es : List EvD) (W : World) : Prop where
  cell : OneAt w #[.slice ao n cap] 26 W
  want : WantIn W (w.heap.size + 1) 32 ao cap es
  len : n = es.length
section
variable {w W W' : World} {ao : Option Addr} {cap n : Nat} {es : List EvD}
theorem FoAt.start (w : World) : FoAt w none 0 0 [] (w.alloc (.cells #[.slice none 0 0] 26)) := ⟨OneAt.made w _ _, WantIn.nil _ _ _, rfl⟩
theorem FoAt.stay (h : FoAt w ao cap n es W) (hb : Below W.heap.size W W') : FoAt w ao cap n es W' := ⟨h.cell.stay hb, h.want.stay hb, h.len⟩
/-- one event more, its cells in a block just made; ahead of its being laid into the cell -/
theorem FoAt.push (h : FoAt w ao cap n es W) (ob : Obj) : ∃ xs, OwnV (W.alloc ob) (w.heap.size + 1) 32 12 ao cap n xs ∧
    ∀ ao' cap' w' (e : EvD) s ys, e.cells s = ys → InE W (fun k => w.heap.size + 1 ≤ k ∧ blockOf ao ≠ some k) e s → OwnV w' (w.heap.size + 1) 32 12 ao' cap' (n + 1) (xs ++ ys) → (W.alloc ob).grownBy w' (blockOf ao) → (blockOf ao' = blockOf ao ∨ blockOf ao' = some (W.alloc ob).heap.size) →
      WantIn w' (w.heap.size + 1) 32 ao' cap' (es ++ [e]) ∧ OneAt w #[.slice ao n cap] 26 w' ∧ Below w.heap.size w w' ∧ FoAt w ao' cap' (n + 1) (es ++ [e]) (w'.setCell ⟨w.heap.size, 0, none⟩ (.slice ao' (n + 1) cap')) ∧
      ∀ (bo : Option Addr) (bc : Nat) (l : List UInt8), IsBS W (fun k => w.heap.size + 1 ≤ k ∧ blockOf ao ≠ some k) bo bc l → IsBS (w'.setCell ⟨w.heap.size, 0, none⟩ (.slice ao' (n + 1) cap')) (fun k => w.heap.size + 1 ≤ k ∧ blockOf ao' ≠ some k) bo bc l := by
  have hn := h.len
  obtain ⟨ps, hO, hq⟩ := h.want.push ob
  rw [← hn] at hO hq
  refine ⟨rowsV ps, hO, fun ao' cap' w' e s ys hy hE hO' hG hat => ?_⟩
  subst hy
  obtain ⟨h1, h2⟩ := hq ao' cap' w' e s hE hO' hG hat
  have hb : Below W.heap.size W (W.alloc ob) := (Below.refl _ _).alloc (Nat.le_refl _) _
  have h3 : OneAt w #[.slice ao n cap] 26 w' := (h.cell.stay hb).turns h2 (fun k e => by omega)
  have h4 := h3.put 0 (.slice ao' (n + 1) cap')
  have hT : Turns (fun k => k = w.heap.size) w' (w'.setCell ⟨w.heap.size, 0, none⟩ (.slice ao' (n + 1) cap')) := setCells_turns w.heap.size [.slice ao' (n + 1) cap'] 0 w'
  refine ⟨h1, h3, h3.below, ⟨h4, ?_, by rw [List.length_append, hn]; rfl⟩, fun bo bc l hl => ?_⟩
  · obtain ⟨qs, g1, g2, g3⟩ := h1
    have hr : ∀ a, ao' = some a → ¬ a.block = w.heap.size := fun a e k => by have := (g2.block a e).1; omega
    refine ⟨qs, g1, g2.turns hT hr, fun p hp => ?_⟩
    exact ((g3 p hp).turns hT (fun k f g => by omega))
  · have hT1 : Turns (fun k => blockOf ao = some k) (W.alloc ob) w' := Turns.of_grown hG (fun k e => e)
    have hT0 := Turns.of_below (S := fun _ => False) hb
    have k1 := ((hl.mono (S' := fun k => (w.heap.size + 1 ≤ k ∧ blockOf ao ≠ some k) ∧ k < W.heap.size) (fun k hk e => ⟨e, hk⟩)).turns hT0 (fun _ _ e => e)).turns hT1 (fun k e => e.1.2)
    refine (k1.turns hT (fun k e f => by omega)).mono (fun k _ e => ⟨e.1.1, fun f => ?_⟩)
    rcases hat with g | g
    · rw [g] at f; exact e.1.2 f
    · rw [g, World.size_alloc] at f; injection f with f; omega
end
set_option maxHeartbeats 1000000 in
/-- the closure that fails -/
theorem formFail_any (w W : World) (ao : Option Addr) (cap n c : Nat) (es : List EvD) (h : FoAt w ao cap n es W) (hn : n ≤ 1000000) :
    Calls Tryz.prog 72 #[.int .i64 (c : Int), .pointer (some ⟨w.heap.size, 0, none⟩)] W fun e w' => ∃ a2 c2, e = .returned (.tuple #[.slice a2 (n + 1) c2, .int .i64 (c : Int)]) ∧ WantIn w' (w.heap.size + 1) 32 a2 c2 (es ++ [Fm.failD c]) ∧ Below w.heap.size w w' := by
  obtain ⟨xs, hO, hp⟩ := h.push (.cells #[.int .i64 4, .string ⟨#[]⟩, .string ⟨#[]⟩, .int .i64 0, .slice none 0 0, .int .i64 0, .slice none 0 0, .string ⟨#[]⟩, .string ⟨#[]⟩, .string ⟨#[]⟩, .slice none 0 0, .int .i64 (c : Int)] 32)
  have HO := Hid.mk' hO; have HP := Hid.mk' hp
  have c0 : W.cell? ⟨w.heap.size, 0, none⟩ = some (.slice ao n cap) := h.cell.cell 0
  have HZ : Hid (w.heap.size + 1 ≤ W.heap.size) := h.cell.lt
  obtain ⟨i0, hi0, hz0, hz1, hz2⟩ := info_parts info_evF
  have Hi := Hid.mk' hi0; have Hz0 := Hid.mk' hz0; have Hz1 := Hid.mk' hz1; have Hz2 := Hid.mk' hz2
  clear hi0 hz0 hz1 hz2 hO hp h
  go_enter Tryz.func72, Tryz.ntmps72
  go_wp2_with (at_builtin; refine wpList_append_v rfl (.tmp 5) (.tmp 8) 26 rfl (w.heap.size + 1) 32 i0 (.agg #[.int .i64 0, .string ⟨#[]⟩, .string ⟨#[]⟩, .int .i64 0, .slice none 0 0, .int .i64 0, .slice none 0 0, .string ⟨#[]⟩, .string ⟨#[]⟩, .string ⟨#[]⟩, .slice none 0 0, .int .i64 0]) 12 184 Tryz.underlying26 Hi.out Hz0.out Hz1.out Hz2.out rfl (by decide) rfl HO.out rfl (IsV.made _ _ 1 _ _) rfl (one_cellsE (Fm.failD c) ⟨none, 0, none, 0, none, 0⟩ _ rfl) (by omega) (by omega) (by rw [World.size_alloc]; have := HZ.out; omega) ?_; intro a3 c3 w3 hO hG hat; have HQ := Hid.mk' (HP.out a3 c3 w3 (Fm.failD c) ⟨none, 0, none, 0, none, 0⟩ _ rfl ⟨IsVS.nil _ _, IsBS.nil _ _, IsBS.nil _ _⟩ hO hG hat); clear hO hG hat)
  go_ret2
  exact ⟨a3, c3, rfl, HQ.out.1, HQ.out.2.2.1⟩
end Go.Proofs.YtjpenioloeplgacGreatDoor
