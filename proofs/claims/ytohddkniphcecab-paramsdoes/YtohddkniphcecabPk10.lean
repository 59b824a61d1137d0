/- Small texts, one behind the other: CsVis, CsAllV, CsIsVis, PmParse. -/
import Derived.Test.YtohddkniphcecabPk2
import Derived.Test.YtohddkniphcecabPk1
import Derived.Test.YtohddkniphcecabProg
import Derived.Test.YtohddkniphcecabPk7
import Derived.Test.YtohddkniphcecabPk9
/- Package chars, walked: visible. -/
namespace Go.Proofs.Ytohddkniphcecab
open Go.RowKit

set_option maxHeartbeats 400000 in
theorem visible_any (c : Int) (w : World) :
    Calls Try.prog 31 #[.int .u8 c] w fun e w' => e = .returned (.bool (Ch.visible c)) ∧ w' = w := by
  by_cases h9 : c = 9
  · subst h9
    go_enter Try.func31, Try.ntmps31
    go_wp2
    go_ret
    exact ⟨ret_bool (by decide), rfl⟩
  · have h9' : (c == 9) = false := beq_eq_false_iff_ne.2 h9
    go_enter Try.func31, Try.ntmps31
    go_wp2
    all_goals go_ret
    all_goals refine ⟨ret_bool ?_, rfl⟩
    all_goals (unfold Ch.visible; rw [h9']; first | (rw [decide_eq_true (show 32 ≤ c by omega)]; simp) | (rw [decide_eq_false (show ¬ 32 ≤ c by omega)]; simp))
end Go.Proofs.Ytohddkniphcecab

/- Package chars, walked: all, of Visible. -/
namespace Go.Proofs.Ytohddkniphcecab
open Go.RowKit

set_option maxHeartbeats 400000 in
theorem all_visible (s : ByteArray) (w : World) (hs : s.size ≤ maxLen) :
    Calls Try.prog 30 #[.string s, .func (.func 31) #[] #[]] w fun e w' => e = .returned (.bool (Ch.isVisible s.data.toList)) ∧ w' = w := by
  unfold maxLen at hs
  go_enter Try.func30, Try.ntmps30
  go_wp2
  go_loop [8] (fun i => ∃ k : Nat, k ≤ s.size ∧ i = .int .i64 k ∧ ((s.data.toList.take k).all fun b => Ch.visible b.toNat) = true) (fun i => s.size - (intOf i).toNat)
  case atStart => exact ⟨0, Nat.zero_le _, rfl, rfl⟩
  case round =>
    obtain ⟨k, hk, rfl, hno⟩ := hrel
    have HN : Hid (((s.data.toList.take k).all fun b => Ch.visible b.toNat) = true) := hno
    clear hno
    by_cases hlt : k < s.size
    · cases he : Ch.visible (s[k].toNat : Int)
      · have HE : Hid (Ch.visible (s[k].toNat : Int) = false) := he
        go_wp2_with (go_at_call 31; refine (visible_any _ _).mono ?_; rintro e w' ⟨rfl, rfl⟩)
        go_ret
        refine ⟨ret_bool ?_, rfl⟩
        exact (Ch.all_of_take (fun b => Ch.visible b.toNat) s k hlt HE.out).symm
      · have HE : Hid (Ch.visible (s[k].toNat : Int) = true) := he
        go_wp2_with (go_at_call 31; refine (visible_any _ _).mono ?_; rintro e w' ⟨rfl, rfl⟩)
        go_round
        case rel => exact ⟨k + 1, by omega, by go_num, by rw [Ch.take_snoc s k hlt, Ch.all_snoc, HN.out, HE.out]; rfl⟩
        case measure => simp [intOf]; omega
    · go_wp2
      go_ret
      refine ⟨ret_bool ?_, rfl⟩
      rw [← HN.out, Ch.take_all s k (by omega)]
      rfl
end Go.Proofs.Ytohddkniphcecab

/- Package chars, walked: IsVisible. -/
namespace Go.Proofs.Ytohddkniphcecab
open Go.RowKit

set_option maxHeartbeats 400000 in
theorem isVisible_any (s : ByteArray) (w : World) (hs : s.size ≤ maxLen) :
    Calls Try.prog 14 #[.string s] w fun e w' => e = .returned (.bool (Ch.isVisible s.data.toList)) ∧ w' = w := by
  go_enter Try.func14, Try.ntmps14
  go_wp2_with (go_at_call 30; refine (all_visible _ _ hs).mono ?_; rintro e w' ⟨rfl, rfl⟩)
  go_ret
  exact ⟨rfl, rfl⟩
end Go.Proofs.Ytohddkniphcecab

/- Package params, walked: Parse. -/
namespace Go.Proofs.Ytohddkniphcecab
open Go.RowKit

set_option maxHeartbeats 800000 in
theorem parseP_no (s : ByteArray) (w : World) (hs : s.size ≤ 100000) (hv : Ch.isVisible s.data.toList = false) :
    Calls Try.prog 7 #[.string s] w fun e w' => MedOut w (Pm.media s.data.toList) e w' := by
  have HM : Hid (Pm.media s.data.toList = .inl 3) := by unfold Hid Pm.media; rw [if_pos hv]
  have HV := Hid.mk' (isVisible_any s (w.alloc (.cells #[.string ⟨#[]⟩, .slice none 0 0] 24)) (by unfold maxLen; omega))
  rw [hv] at HV
  have HB : Hid (Below w.heap.size w (w.alloc (.cells #[.string ⟨#[]⟩, .slice none 0 0] 24))) := (Below.refl _ _).alloc (Nat.le_refl _) _
  have c0 : (w.alloc (.cells #[.string ⟨#[]⟩, .slice none 0 0] 24)).cell? ⟨w.heap.size, 0, none⟩ = some (.string ⟨#[]⟩) := World.cell?_alloc_mark w _ _ _ 0
  have c1 : (w.alloc (.cells #[.string ⟨#[]⟩, .slice none 0 0] 24)).cell? ⟨w.heap.size, 1, none⟩ = some (.slice none 0 0) := World.cell?_alloc_mark w _ _ _ 1
  clear hv
  go_enter Try.func7, Try.ntmps7
  go_wp2_with fail
  refine HV.out.mono ?_
  rintro e w1 ⟨rfl, hw⟩
  subst hw
  go_wp2
  refine bodyPost_ret (v := .tuple #[.agg #[.string ⟨#[]⟩, .slice none 0 0], .int .i64 3]) (by simp [results, Try.results7, go_sem, c0, c1]) rfl (MedOut.bad (c := 3) HM.out ?_)
  first | exact HB.out | exact (HB.out.setCell (Nat.le_refl _) _).setCell (Nat.le_refl _) _

set_option maxHeartbeats 1600000 in
theorem parseP_yes (s : ByteArray) (w : World) (hs : s.size ≤ 100000) (hv : Ch.isVisible s.data.toList = true) :
    Calls Try.prog 7 #[.string s] w fun e w' => MedOut w (Pm.media s.data.toList) e w' := by
  have hM := Pm.media_N s.data.toList hv
  have HV := Hid.mk' (isVisible_any s (w.alloc (.cells #[.string ⟨#[]⟩, .slice none 0 0] 24)) (by unfold maxLen; omega))
  rw [hv] at HV
  have hmf : ∀ (fn : Fn) (first cap : Array Value) (w : World), (Instr.makeFunc fn first cap).run Try.prog w = .ok (.func fn first cap) w := fun _ _ _ _ => rfl
  have hb1 : Below w.heap.size w (w.alloc (.cells #[.string ⟨#[]⟩, .slice none 0 0] 24)) := (Below.refl _ _).alloc (Nat.le_refl _) _
  have r1 : (w.alloc (.cells #[.string ⟨#[]⟩, .slice none 0 0] 24)).heap[w.heap.size]? = some (.cells #[.string ⟨#[]⟩, .slice none 0 0] 24 (0, 0)) := heap_alloc_new w _
  have hb2 : Below (w.heap.size + 1) (w.alloc (.cells #[.string ⟨#[]⟩, .slice none 0 0] 24)) ((w.alloc (.cells #[.string ⟨#[]⟩, .slice none 0 0] 24)).alloc (.cells #[.string s, .int .i64 0] 40)) := (Below.refl _ _).alloc (by simp) _
  have hz : (w.alloc (.cells #[.string ⟨#[]⟩, .slice none 0 0] 24)).heap.size = w.heap.size + 1 := by simp
  have hrd : RdAt ((w.alloc (.cells #[.string ⟨#[]⟩, .slice none 0 0] 24)).alloc (.cells #[.string s, .int .i64 0] 40)) (w.heap.size + 1) s 0 := by
    have := heap_alloc_new (w.alloc (.cells #[.string ⟨#[]⟩, .slice none 0 0] 24)) (.cells #[.string s, .int .i64 0] 40)
    rw [hz] at this
    exact this
  have hr2 : ((w.alloc (.cells #[.string ⟨#[]⟩, .slice none 0 0] 24)).alloc (.cells #[.string s, .int .i64 0] 40)).heap[w.heap.size]? = some (.cells #[.string ⟨#[]⟩, .slice none 0 0] 24 (0, 0)) := (hb2.block _ (by omega)).trans r1
  have HB : Hid (Below w.heap.size w ((w.alloc (.cells #[.string ⟨#[]⟩, .slice none 0 0] 24)).alloc (.cells #[.string s, .int .i64 0] 40))) := hb1.trans (hb2.mono (by omega))
  have hz2 : ((w.alloc (.cells #[.string ⟨#[]⟩, .slice none 0 0] 24)).alloc (.cells #[.string s, .int .i64 0] 40)).heap.size = w.heap.size + 2 := by simp
  have HR := Hid.mk' hr2
  clear hv
  cases hm : Pm.medN s.data.toList 0 with
  | inl c =>
    rw [hm] at hM
    have HM := Hid.mk' hM
    have HC := Hid.mk' (caught_no s (w.heap.size + 1) w.heap.size _ hrd hs c hm)
    clear hM hm hb1 r1 hb2 hz hrd hr2 hz2
    go_enter Try.func7, Try.ntmps7
    go_wp2_with fail
    refine HV.out.mono ?_
    rintro e w1 ⟨rfl, hw⟩
    subst hw
    go_wp2_with fail
    refine HC.out.mono ?_
    rintro e w2 ⟨rfl, t2⟩
    have R2 := Hid.mk' (t2.row HR.out (fun e => by unfold only at e; omega))
    have B2 := Hid.mk' (HB.out.trans (t2.below (B := w.heap.size) (fun k e => by unfold only at e; omega) (by simp; omega)))
    clear t2
    have c0 : w2.cell? ⟨w.heap.size, 0, none⟩ = some (.string ⟨#[]⟩) := cell_of_row w2 _ 0 _ _ _ R2.out
    have c1 : w2.cell? ⟨w.heap.size, 1, none⟩ = some (.slice none 0 0) := cell_of_row w2 _ 1 _ _ _ R2.out
    have f0 : w2.frozen? ⟨w.heap.size, 0, none⟩ = false := frozen_of_row w2 _ 0 _ _ R2.out
    have f1 : w2.frozen? ⟨w.heap.size, 1, none⟩ = false := frozen_of_row w2 _ 1 _ _ R2.out
    go_wp2
    refine bodyPost_ret (v := .tuple #[.agg #[.string ⟨#[]⟩, .slice none 0 0], .int .i64 (c : Int)]) (by simp [results, Try.results7, go_sem, c0, c1]) rfl (MedOut.bad (c := c) HM.out ?_)
    first | exact B2.out | exact (B2.out.setCell (Nat.le_refl _) _).setCell (Nat.le_refl _) _
  | inr x =>
    rw [hm] at hM
    have HM := Hid.mk' hM
    have HC := Hid.mk' (caught_yes s (w.heap.size + 1) w.heap.size _ hrd hr2 hs x hm)
    rw [hz2] at HC
    clear hM hm hb1 r1 hb2 hz hrd hr2 hz2
    go_enter Try.func7, Try.ntmps7
    go_wp2_with fail
    refine HV.out.mono ?_
    rintro e w1 ⟨rfl, hw⟩
    subst hw
    go_wp2_with fail
    refine HC.out.mono ?_
    rintro e w2 ⟨rfl, ⟨wo, ps, ao, cap, hd, hwo, hps, ho⟩, t2⟩
    have R2 := Hid.mk' hd
    have B2 := Hid.mk' (HB.out.trans (t2.below (B := w.heap.size) (fun k e => by unfold both at e; omega) (by simp; omega)))
    have HO := Hid.mk' ho
    have HE : Hid (MedIs (.inr x) wo ps 0) := ⟨rfl, hwo, hps⟩
    clear t2 ho hwo hps hd
    have c0 : w2.cell? ⟨w.heap.size, 0, none⟩ = some (.string wo) := cell_of_row w2 _ 0 _ _ _ R2.out
    have c1 : w2.cell? ⟨w.heap.size, 1, none⟩ = some (.slice ao ps.length cap) := cell_of_row w2 _ 1 _ _ _ R2.out
    have f0 : w2.frozen? ⟨w.heap.size, 0, none⟩ = false := frozen_of_row w2 _ 0 _ _ R2.out
    have f1 : w2.frozen? ⟨w.heap.size, 1, none⟩ = false := frozen_of_row w2 _ 1 _ _ R2.out
    go_wp2
    refine bodyPost_ret (v := .tuple #[.agg #[.string wo, .slice ao ps.length cap], .int .i64 0]) (by simp [results, Try.results7, go_sem, c0, c1]) rfl ⟨wo, ps, ao, cap, 0, rfl, by rw [HM.out]; exact HE.out, ?_, ?_⟩
    · first
        | exact HO.out.mono (by omega)
        | (refine OwnV.turns (S := fun k => k = w.heap.size) (OwnV.turns (S := fun k => k = w.heap.size) (HO.out.mono (by omega)) (Turns.setCell _ _ _ _ rfl) (fun a e e2 => ?_)) (Turns.setCell _ _ _ _ rfl) (fun a e e2 => ?_) <;> (have := (HO.out.block a e).1; omega))
    · first | exact B2.out | exact (B2.out.setCell (Nat.le_refl _) _).setCell (Nat.le_refl _) _
theorem parseP_any (s : ByteArray) (w : World) (hs : s.size ≤ 100000) :
    Calls Try.prog 7 #[.string s] w fun e w' => MedOut w (Pm.media s.data.toList) e w' := by
  cases hv : Ch.isVisible s.data.toList
  · exact parseP_no s w hs hv
  · exact parseP_yes s w hs hv
end Go.Proofs.Ytohddkniphcecab
