/- Plain: the library's search of a mark is the document's. -/
import Derived.Test.YtjpenioloeplgadGreatDoorPk6
import Derived.Lib.IndexMore
namespace Go.Proofs.YtjpenioloeplgadGreatDoor.Pk
/-- does the mark stand somewhere? -/
theorem contains_find {m x : List UInt8} (hm : m ≠ []) : Lib.contains x m = (Fm.find m x).isSome := by
  have hp : 0 < m.length := List.length_pos_iff.2 hm
  have occ : ∀ j, j ≤ x.length → (Lib.occAt x m j = true ↔ (j + m.length ≤ x.length ∧ (x.drop j).take m.length = m)) := fun j hj => by
    unfold Lib.occAt
    rw [List.isPrefixOf_iff_prefix]
    constructor
    · intro h
      have h2 := (List.prefix_iff_eq_take.1 h).symm
      have hl := h.length_le
      rw [List.length_drop] at hl
      exact ⟨by omega, h2⟩
    · intro h; exact List.prefix_iff_eq_take.2 h.2.symm
  obtain ⟨f1, f2⟩ := Fm.find_of (x := x) hm
  unfold Lib.contains
  rcases Lib.index_spec x m with ⟨h1, h2⟩ | ⟨i, h1, h2, h3, _⟩
  · rw [h1]
    cases hf : Fm.find m x with
    | none => rfl
    | some k =>
      have hk := (f2 k hf).1
      have hkl : k ≤ x.length := by omega
      have := (occ k hkl).2 hk
      rw [h2 k hkl] at this
      cases this
  · rw [h1]
    cases hf : Fm.find m x with
    | none => exact absurd ((occ i h2).1 h3) (f1 hf i)
    | some k => simp
end Go.Proofs.YtjpenioloeplgadGreatDoor.Pk
