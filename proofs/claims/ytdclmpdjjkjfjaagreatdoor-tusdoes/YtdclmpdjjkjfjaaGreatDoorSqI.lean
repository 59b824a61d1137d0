/- Package spool, walked: clone. -/
import Derived.Test.YtdclmpdjjkjfjaaGreatDoorSqH
import Derived.Test.YtdclmpdjjkjfjaaGreatDoorPk18
import Derived.Test.YtdclmpdjjkjfjaaGreatDoorPk11
namespace Go.Proofs.YtdclmpdjjkjfjaaGreatDoor
open Go.RowKit

set_option maxRecDepth 100000 in
set_option maxHeartbeats 2000000 in
theorem cloneU_any (i z t : Int) (m : ByteArray) (bo : Option Addr) (n bcap : Nat) (bs : List UInt8) (w : World) (hB : IsB w bo bcap bs) (hn : bs.length = n) (hN : n ≤ 1000000) (hm : m.size ≤ 1000000) :
    Calls Tryz.prog 65 #[.agg #[.int .i64 i, .int .i64 z, .string m, .slice bo n bcap, .int .i64 t]] w fun e w' => ∃ ao cap, e = .returned (.agg #[.int .i64 i, .int .i64 z, .string m, .slice ao n cap, .int .i64 t]) ∧ GrowB w' (fun k => w.heap.size ≤ k) 5 ao cap bs ∧ Below w.heap.size w w' := by
  have HC1 := Hid.mk' (fun W => sclone_any m W hm)
  have HC2 : Hid (∀ W, Below w.heap.size w W → Calls Tryz.prog 96 #[.slice bo n bcap] W fun e w' => ∃ ao cap, e = .returned (.slice ao n cap) ∧ GrowB w' (fun k => W.heap.size ≤ k) 5 ao cap bs ∧ Below W.heap.size W w') := fun W hW => cloneBytes_any bs bo bcap n W (hB.stay hW) hn (by omega)
  clear hB
  go_enter Tryz.func65, Tryz.ntmps65
  go_upto_region 1 with fail
  have h0 : TwoAt w (.cells #[.int .i64 i, .int .i64 z, .string m, .slice bo n bcap, .int .i64 t] 67 (0, 0)) (.cells #[.int .i64 0, .int .i64 0, .string ⟨#[]⟩, .slice none 0 0, .int .i64 0] 67 (0, 0)) _ := TwoAt.made w #[.int .i64 i, .int .i64 z, .string m, .slice bo n bcap, .int .i64 t] #[.int .i64 0, .int .i64 0, .string ⟨#[]⟩, .slice none 0 0, .int .i64 0] 67 67
  have HCl : Hid (∀ W, TwoAt w (.cells #[.int .i64 i, .int .i64 z, .string m, .slice bo n bcap, .int .i64 t] 67 (0, 0)) (.cells #[.int .i64 0, .int .i64 0, .string ⟨#[]⟩, .slice none 0 0, .int .i64 0] 67 (0, 0)) W → W.cell? ⟨w.heap.size, 2, none⟩ = some (.string m) ∧ W.cell? ⟨w.heap.size, 3, none⟩ = some (.slice bo n bcap) ∧ W.frozen? ⟨w.heap.size, 2, none⟩ = false ∧ W.frozen? ⟨w.heap.size, 3, none⟩ = false) := fun W h => ⟨h.cell 2, h.cell 3, h.fz 2, h.fz 3⟩
  obtain ⟨c2, c3, f2, f3⟩ := HCl.out _ h0
  have hs0 : w.heap.size + 2 ≤ ((w.alloc (.cells #[.int .i64 i, .int .i64 z, .string m, .slice bo n bcap, .int .i64 t] 67)).alloc (.cells #[.int .i64 0, .int .i64 0, .string ⟨#[]⟩, .slice none 0 0, .int .i64 0] 67)).heap.size := by simp
  generalize ((w.alloc (.cells #[.int .i64 i, .int .i64 z, .string m, .slice bo n bcap, .int .i64 t] 67)).alloc (.cells #[.int .i64 0, .int .i64 0, .string ⟨#[]⟩, .slice none 0 0, .int .i64 0] 67)) = w1 at *
  have HX := Hid.mk' h0
  have HS0 := Hid.mk' hs0
  clear h0 hs0
  go_cut [3] (fun _ wd => ∃ ao cap, TwoAt w (.cells #[.int .i64 i, .int .i64 z, .string m, .slice ao n cap, .int .i64 t] 67 (0, 0)) (.cells #[.int .i64 0, .int .i64 0, .string ⟨#[]⟩, .slice none 0 0, .int .i64 0] 67 (0, 0)) wd ∧ GrowB wd (fun k => w.heap.size + 2 ≤ k) 5 ao cap bs)
  case first =>
    go_region_with (first
      | (go_at_call 95; refine (HC1.out _).mono ?_; rintro e w2 ⟨rfl, hb2⟩; have hx2 := HX.out.stay ((below_drew _ _).trans hb2); obtain ⟨d2, d3, g2, g3⟩ := HCl.out _ hx2; have HX2 := Hid.mk' hx2; have HS2 : Hid (w1.heap.size ≤ w2.heap.size) := hb2.size; clear hb2 hx2)
      | (go_at_call 96; refine (HC2.out _ HX2.out.below).mono ?_; rintro e w3 ⟨ao, cap, rfl, hO, hb3⟩; have hx3 := HX2.out.stay hb3; obtain ⟨e2, e3, k2, k3⟩ := HCl.out _ hx3; have HX3 := Hid.mk' hx3; have HO := Hid.mk' hO; clear hb3 hx3 hO))
    all_goals
      go_wp2
      go_meet
      have hx4 := HX3.out.same 2 (.string m) rfl
      obtain ⟨hx5, ht5⟩ := hx4.put1 3 (.slice ao n cap)
      have ht4 : Turns (fun k => w.heap.size ≤ k ∧ k < w.heap.size + 2) w3 (w3.setCell ⟨w.heap.size, 2, none⟩ (.string m)) := Turns.setCell _ w3 _ _ ⟨Nat.le_refl _, by show w.heap.size < _; omega⟩
      have hs0 := HS0.out
      have hs2 := HS2.out
      refine ⟨ao, cap, hx5, ((HO.out.to (S' := fun k => w.heap.size + 2 ≤ k) (fun k e _ _ => by omega)).turns ht4 (fun k e h => by omega)).turns ht5 (fun k e h => by omega)⟩
  case rest =>
    obtain ⟨ao, cap, hx, hO⟩ := hcut
    have HT := Hid.mk' hx
    have HO := Hid.mk' hO
    have d0 := hx.cell 0; have d1 := hx.cell 1; have d2 := hx.cell 2; have d3 := hx.cell 3; have d4 := hx.cell 4
    have g0 := hx.fz2 0; have g1 := hx.fz2 1; have g2 := hx.fz2 2; have g3 := hx.fz2 3; have g4 := hx.fz2 4
    have e0 := hx.cell2 0; have e1 := hx.cell2 1; have e2 := hx.cell2 2; have e3 := hx.cell2 3; have e4 := hx.cell2 4
    simp at d0 d1 d2 d3 d4 e0 e1 e2 e3 e4
    clear hx hO c2 c3 f2 f3 HX HS0 HCl HC1 HC2
    go_wp2
    obtain ⟨a1, t1⟩ := HT.out.put2 0 (.int .i64 i)
    obtain ⟨a2, t2⟩ := a1.put2 1 (.int .i64 z)
    obtain ⟨a3, t3⟩ := a2.put2 2 (.string m)
    obtain ⟨a4, t4⟩ := a3.put2 3 (.slice ao n cap)
    obtain ⟨a5, t5⟩ := a4.put2 4 (.int .i64 t)
    have hno : ∀ k, w.heap.size + 2 ≤ k → ¬ (w.heap.size ≤ k ∧ k < w.heap.size + 2) := fun k e h => by omega
    have hO6 := ((((HO.out.turns t1 hno).turns t2 hno).turns t3 hno).turns t4 hno).turns t5 hno
    generalize (((((wc.setCell ⟨w.heap.size + 1, 0, none⟩ (Value.int .i64 i)).setCell ⟨w.heap.size + 1, 1, none⟩ (Value.int .i64 z)).setCell ⟨w.heap.size + 1, 2, none⟩ (Value.string m)).setCell ⟨w.heap.size + 1, 3, none⟩ (Value.slice ao n cap)).setCell ⟨w.heap.size + 1, 4, none⟩ (Value.int .i64 t)) = w6 at a5 hO6 ⊢
    have r0 : w6.cell? ⟨w.heap.size + 1, 0, none⟩ = some (.int .i64 i) := a5.cell2 0
    have r1 : w6.cell? ⟨w.heap.size + 1, 1, none⟩ = some (.int .i64 z) := a5.cell2 1
    have r2 : w6.cell? ⟨w.heap.size + 1, 2, none⟩ = some (.string m) := a5.cell2 2
    have r3 : w6.cell? ⟨w.heap.size + 1, 3, none⟩ = some (.slice ao n cap) := a5.cell2 3
    have r4 : w6.cell? ⟨w.heap.size + 1, 4, none⟩ = some (.int .i64 t) := a5.cell2 4
    refine bodyPost_ret (v := .agg #[.int .i64 i, .int .i64 z, .string m, .slice ao n cap, .int .i64 t]) (by simp [results, Tryz.results65, go_sem, r0, r1, r2, r3, r4]) rfl ⟨ao, cap, rfl, hO6.mono (fun k _ e => by omega), a5.below⟩
end Go.Proofs.YtdclmpdjjkjfjaaGreatDoor
