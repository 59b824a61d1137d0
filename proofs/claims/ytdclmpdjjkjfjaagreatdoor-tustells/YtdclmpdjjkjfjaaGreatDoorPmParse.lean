/- Package params, walked: Parse. -/
import Derived.Test.YtdclmpdjjkjfjaaGreatDoorPk23
import Derived.Test.YtdclmpdjjkjfjaaGreatDoorPk21
import Derived.Test.YtdclmpdjjkjfjaaGreatDoorPk14
namespace Go.Proofs.YtdclmpdjjkjfjaaGreatDoor
open Go.RowKit

set_option maxHeartbeats 800000 in
theorem parseP_no (s : ByteArray) (w : World) (hs : s.size ≤ 100000) (hv : Ch.isVisible s.data.toList = false) :
    Calls Tryz.prog 113 #[.string s] w fun e w' => MedOut w (Pm.media s.data.toList) e w' := by
  have HM : Hid (Pm.media s.data.toList = .inl 3) := by unfold Hid Pm.media; rw [if_pos hv]
  have HV := Hid.mk' (isVisible_any s (w.alloc (.cells #[.string ⟨#[]⟩, .slice none 0 0] 113)) (by unfold maxLen; omega))
  rw [hv] at HV
  have HB : Hid (Below w.heap.size w (w.alloc (.cells #[.string ⟨#[]⟩, .slice none 0 0] 113))) := (Below.refl _ _).alloc (Nat.le_refl _) _
  have c0 : (w.alloc (.cells #[.string ⟨#[]⟩, .slice none 0 0] 113)).cell? ⟨w.heap.size, 0, none⟩ = some (.string ⟨#[]⟩) := World.cell?_alloc_mark w _ _ _ 0
  have c1 : (w.alloc (.cells #[.string ⟨#[]⟩, .slice none 0 0] 113)).cell? ⟨w.heap.size, 1, none⟩ = some (.slice none 0 0) := World.cell?_alloc_mark w _ _ _ 1
  clear hv
  go_enter Tryz.func113, Tryz.ntmps113
  go_wp2_with fail
  refine HV.out.mono ?_
  rintro e w1 ⟨rfl, hw⟩
  subst hw
  go_wp2
  refine bodyPost_ret (v := .tuple #[.agg #[.string ⟨#[]⟩, .slice none 0 0], .int .i64 3]) (by simp [results, Tryz.results113, go_sem, c0, c1]) rfl (MedOut.bad (c := 3) HM.out ?_)
  first | exact HB.out | exact (HB.out.setCell (Nat.le_refl _) _).setCell (Nat.le_refl _) _

set_option maxHeartbeats 1600000 in
theorem parseP_yes (s : ByteArray) (w : World) (hs : s.size ≤ 100000) (hv : Ch.isVisible s.data.toList = true) :
    Calls Tryz.prog 113 #[.string s] w fun e w' => MedOut w (Pm.media s.data.toList) e w' := by
  have hM := Pm.media_N s.data.toList hv
  have HV := Hid.mk' (isVisible_any s (w.alloc (.cells #[.string ⟨#[]⟩, .slice none 0 0] 113)) (by unfold maxLen; omega))
  rw [hv] at HV
  have hmf : ∀ (fn : Fn) (first cap : Array Value) (w : World), (Instr.makeFunc fn first cap).run Tryz.prog w = .ok (.func fn first cap) w := fun _ _ _ _ => rfl
  have hb1 : Below w.heap.size w (w.alloc (.cells #[.string ⟨#[]⟩, .slice none 0 0] 113)) := (Below.refl _ _).alloc (Nat.le_refl _) _
  have r1 : (w.alloc (.cells #[.string ⟨#[]⟩, .slice none 0 0] 113)).heap[w.heap.size]? = some (.cells #[.string ⟨#[]⟩, .slice none 0 0] 113 (0, 0)) := heap_alloc_new w _
  have hb2 : Below (w.heap.size + 1) (w.alloc (.cells #[.string ⟨#[]⟩, .slice none 0 0] 113)) ((w.alloc (.cells #[.string ⟨#[]⟩, .slice none 0 0] 113)).alloc (.cells #[.string s, .int .i64 0] 155)) := (Below.refl _ _).alloc (by simp) _
  have hz : (w.alloc (.cells #[.string ⟨#[]⟩, .slice none 0 0] 113)).heap.size = w.heap.size + 1 := by simp
  have hrd : RdAt ((w.alloc (.cells #[.string ⟨#[]⟩, .slice none 0 0] 113)).alloc (.cells #[.string s, .int .i64 0] 155)) (w.heap.size + 1) s 0 := by
    have := heap_alloc_new (w.alloc (.cells #[.string ⟨#[]⟩, .slice none 0 0] 113)) (.cells #[.string s, .int .i64 0] 155)
    rw [hz] at this
    exact this
  have hr2 : ((w.alloc (.cells #[.string ⟨#[]⟩, .slice none 0 0] 113)).alloc (.cells #[.string s, .int .i64 0] 155)).heap[w.heap.size]? = some (.cells #[.string ⟨#[]⟩, .slice none 0 0] 113 (0, 0)) := (hb2.block _ (by omega)).trans r1
  have HB : Hid (Below w.heap.size w ((w.alloc (.cells #[.string ⟨#[]⟩, .slice none 0 0] 113)).alloc (.cells #[.string s, .int .i64 0] 155))) := hb1.trans (hb2.mono (by omega))
  have hz2 : ((w.alloc (.cells #[.string ⟨#[]⟩, .slice none 0 0] 113)).alloc (.cells #[.string s, .int .i64 0] 155)).heap.size = w.heap.size + 2 := by simp
  have HR := Hid.mk' hr2
  clear hv
  cases hm : Pm.medN s.data.toList 0 with
  | inl c =>
    rw [hm] at hM
    have HM := Hid.mk' hM
    have HC := Hid.mk' (caught_no s (w.heap.size + 1) w.heap.size _ hrd hs c hm)
    clear hM hm hb1 r1 hb2 hz hrd hr2 hz2
    go_enter Tryz.func113, Tryz.ntmps113
    go_wp2_with fail
    refine HV.out.mono ?_
    rintro e w1 ⟨rfl, hw⟩
    subst hw
    go_wp2_with fail
    refine HC.out.mono ?_
    rintro e w2 ⟨rfl, t2⟩
    have R2 := Hid.mk' (t2.row HR.out (fun e => by unfold only at e; omega))
    have B2 := Hid.mk' (HB.out.trans (t2.below (B := w.heap.size) (fun k e => by unfold only at e; omega) (by simp; omega)))
    clear t2
    have c0 : w2.cell? ⟨w.heap.size, 0, none⟩ = some (.string ⟨#[]⟩) := cell_of_row w2 _ 0 _ _ _ R2.out
    have c1 : w2.cell? ⟨w.heap.size, 1, none⟩ = some (.slice none 0 0) := cell_of_row w2 _ 1 _ _ _ R2.out
    have f0 : w2.frozen? ⟨w.heap.size, 0, none⟩ = false := frozen_of_row w2 _ 0 _ _ R2.out
    have f1 : w2.frozen? ⟨w.heap.size, 1, none⟩ = false := frozen_of_row w2 _ 1 _ _ R2.out
    go_wp2
    refine bodyPost_ret (v := .tuple #[.agg #[.string ⟨#[]⟩, .slice none 0 0], .int .i64 (c : Int)]) (by simp [results, Tryz.results113, go_sem, c0, c1]) rfl (MedOut.bad (c := c) HM.out ?_)
    first | exact B2.out | exact (B2.out.setCell (Nat.le_refl _) _).setCell (Nat.le_refl _) _
  | inr x =>
    rw [hm] at hM
    have HM := Hid.mk' hM
    have HC := Hid.mk' (caught_yes s (w.heap.size + 1) w.heap.size _ hrd hr2 hs x hm)
    rw [hz2] at HC
    clear hM hm hb1 r1 hb2 hz hrd hr2 hz2
    go_enter Tryz.func113, Tryz.ntmps113
    go_wp2_with fail
    refine HV.out.mono ?_
    rintro e w1 ⟨rfl, hw⟩
    subst hw
    go_wp2_with fail
    refine HC.out.mono ?_
    rintro e w2 ⟨rfl, ⟨wo, ps, ao, cap, hd, hwo, hps, ho⟩, t2⟩
    have R2 := Hid.mk' hd
    have B2 := Hid.mk' (HB.out.trans (t2.below (B := w.heap.size) (fun k e => by unfold both at e; omega) (by simp; omega)))
    have HO := Hid.mk' ho
    have HE : Hid (MedIs (.inr x) wo ps 0) := ⟨rfl, hwo, hps⟩
    clear t2 ho hwo hps hd
    have c0 : w2.cell? ⟨w.heap.size, 0, none⟩ = some (.string wo) := cell_of_row w2 _ 0 _ _ _ R2.out
    have c1 : w2.cell? ⟨w.heap.size, 1, none⟩ = some (.slice ao ps.length cap) := cell_of_row w2 _ 1 _ _ _ R2.out
    have f0 : w2.frozen? ⟨w.heap.size, 0, none⟩ = false := frozen_of_row w2 _ 0 _ _ R2.out
    have f1 : w2.frozen? ⟨w.heap.size, 1, none⟩ = false := frozen_of_row w2 _ 1 _ _ R2.out
    go_wp2
    refine bodyPost_ret (v := .tuple #[.agg #[.string wo, .slice ao ps.length cap], .int .i64 0]) (by simp [results, Tryz.results113, go_sem, c0, c1]) rfl ⟨wo, ps, ao, cap, 0, rfl, by rw [HM.out]; exact HE.out, ?_, ?_⟩
    · first
        | exact HO.out.mono (by omega)
        | (refine OwnV.turns (S := fun k => k = w.heap.size) (OwnV.turns (S := fun k => k = w.heap.size) (HO.out.mono (by omega)) (Turns.setCell _ _ _ _ rfl) (fun a e e2 => ?_)) (Turns.setCell _ _ _ _ rfl) (fun a e e2 => ?_) <;> (have := (HO.out.block a e).1; omega))
    · first | exact B2.out | exact (B2.out.setCell (Nat.le_refl _) _).setCell (Nat.le_refl _) _
theorem parseP_any (s : ByteArray) (w : World) (hs : s.size ≤ 100000) :
    Calls Tryz.prog 113 #[.string s] w fun e w' => MedOut w (Pm.media s.data.toList) e w' := by
  cases hv : Ch.isVisible s.data.toList
  · exact parseP_no s w hs hv
  · exact parseP_yes s w hs hv
end Go.Proofs.YtdclmpdjjkjfjaaGreatDoor
