/- The statements' own helper for a log, walked: an entry as the document's own. -/
import Derived.Test.YtankilclhknbkaaJrF
namespace Go.Proofs.Ytankilclhknbkaa
open Go.RowKit
set_option maxHeartbeats 1000000 in
theorem entryOf_any (x y z : Int) (ta : Option Addr) (tn tc : Nat) (w : World) :
    Calls Try.prog 10 #[.agg #[.int .i64 x, .int .i64 y, .int .i64 z, .slice ta tn tc]] w fun e w' => e = .returned (.agg #[.int .i64 x, .int .i64 y, .int .i64 z, .slice ta tn tc]) ∧ Below w.heap.size w w' := by
  have hb1 : Below w.heap.size w (w.alloc (.cells #[.int .i64 x, .int .i64 y, .int .i64 z, .slice ta tn tc] 24)) := (Below.refl _ w).alloc (Nat.le_refl _) _
  have hb2 := hb1.alloc hb1.size (.cells #[.int .i64 0, .int .i64 0, .int .i64 0, .slice none 0 0] 29)
  have hq := heap_alloc_new (w.alloc (.cells #[.int .i64 x, .int .i64 y, .int .i64 z, .slice ta tn tc] 24)) (.cells #[.int .i64 0, .int .i64 0, .int .i64 0, .slice none 0 0] 29)
  rw [World.size_alloc] at hq
  have hr := (Below.heap_alloc (w.alloc (.cells #[.int .i64 x, .int .i64 y, .int .i64 z, .slice ta tn tc] 24)) (.cells #[.int .i64 0, .int .i64 0, .int .i64 0, .slice none 0 0] 29) w.heap.size (by simp)).trans (heap_alloc_new w _)
  go_enter Try.func10, Try.ntmps10
  go_upto_region 1 with fail
  have HB := Hid.mk' hb2
  generalize (w.alloc (.cells #[.int .i64 x, .int .i64 y, .int .i64 z, .slice ta tn tc] 24)).alloc (.cells #[.int .i64 0, .int .i64 0, .int .i64 0, .slice none 0 0] 29) = w2 at *
  obtain ⟨⟨c0, c1, c2, c3⟩, _⟩ := row4 hr
  obtain ⟨⟨d0, d1, d2, d3⟩, f0, f1, f2, f3⟩ := row4 hq
  have HQ := Hid.mk' hq
  clear hr hq hb1 hb2
  go_wp2
  obtain ⟨hr4, ht4⟩ := store4 HQ.out (.int .i64 x) (.int .i64 y) (.int .i64 z) (.slice ta tn tc)
  generalize ((((w2.setCell ⟨w.heap.size + 1, 0, none⟩ (Value.int .i64 x)).setCell ⟨w.heap.size + 1, 1, none⟩ (Value.int .i64 y)).setCell ⟨w.heap.size + 1, 2, none⟩ (Value.int .i64 z)).setCell ⟨w.heap.size + 1, 3, none⟩ (Value.slice ta tn tc)) = w4 at hr4 ht4 ⊢
  obtain ⟨⟨r0, r1, r2, r3⟩, _⟩ := row4 hr4
  refine bodyPost_ret (v := .agg #[.int .i64 x, .int .i64 y, .int .i64 z, .slice ta tn tc]) (by simp [results, Try.results10, go_sem, r0, r1, r2, r3]) rfl ⟨rfl, HB.out.trans (ht4.below (fun k e => by omega) HB.out.size)⟩
end Go.Proofs.Ytankilclhknbkaa
