/- Events of requests as they lie in memory, and what is joined of them. -/
import Derived.Test.YtkafbifogdoneacGreatDoorPk4
import Derived.Test.YtkafbifogdoneacGreatDoorPk3
import Derived.Test.YtkafbifogdoneacGreatDoorFlB
namespace Go.Proofs.YtkafbifogdoneacGreatDoor

/-- an event as it lies in memory -/
def Rq.Ev.d : Rq.Ev → EvD
  | .head h => ⟨1, ⟨h.method.toArray⟩, ⟨h.target.toArray⟩, (h.minor : Int), Rq.flT h.fields, h.length, [], ⟨#[]⟩, ⟨#[]⟩, ⟨#[]⟩, [], 0⟩
  | .body b => ⟨2, ⟨#[]⟩, ⟨#[]⟩, 0, [], 0, b, ⟨#[]⟩, ⟨#[]⟩, ⟨#[]⟩, [], 0⟩
  | .fin => ⟨3, ⟨#[]⟩, ⟨#[]⟩, 0, [], 0, [], ⟨#[]⟩, ⟨#[]⟩, ⟨#[]⟩, [], 0⟩
  | .fail c => ⟨4, ⟨#[]⟩, ⟨#[]⟩, 0, [], 0, [], ⟨#[]⟩, ⟨#[]⟩, ⟨#[]⟩, [], (c : Int)⟩
theorem kind_body (e : Rq.Ev) : e.d.kind = 2 ↔ e.isBody = true := by cases e <;> simp [Rq.Ev.d, Rq.Ev.isBody]
theorem tailD_d (l : List Rq.Ev) : tailD (l.map Rq.Ev.d) = Rq.tailed l := by
  rcases List.eq_nil_or_concat l with rfl | ⟨q, x, rfl⟩
  · rfl
  · rw [List.concat_eq_append, List.map_append, List.map_cons, List.map_nil, tailD_snoc, Rq.tailed_snoc]
    by_cases h : x.isBody = true
    · rw [h]; exact decide_eq_true ((kind_body x).2 h)
    · rw [Bool.not_eq_true] at h
      rw [h]; exact decide_eq_false (fun k => by rw [(kind_body x).1 k] at h; cases h)
/-- one more behind events that are joined -/
theorem addD_d {l : List Rq.Ev} (hj : Rq.Joined l) (e : Rq.Ev) : addD (l.map Rq.Ev.d) e.d = (Rq.join (l ++ [e])).map Rq.Ev.d := by
  by_cases hp : e.isBody = true ∧ Rq.tailed l = true
  · obtain ⟨b, rfl⟩ : ∃ b, e = .body b := by
      cases e with
      | body b => exact ⟨b, rfl⟩
      | head _ => cases hp.1
      | fin => cases hp.1
      | fail _ => cases hp.1
    obtain ⟨q, a, rfl⟩ := Rq.tailed_split l hp.2
    rw [Rq.join_bodies hj, List.map_append, List.map_cons, List.map_nil, addD_merge _ _ _ rfl rfl, List.map_append]
    rfl
  · have ht : e.isBody = true → Rq.tailed l = false := fun hb => by
      cases ht : Rq.tailed l
      · rfl
      · exact absurd ⟨hb, ht⟩ hp
    rw [Rq.join_plain hj ht, addD_plain _ _ (fun k => by rw [tailD_d]; exact ht ((kind_body e).1 k)), List.map_append]
    rfl
theorem joinD_d (l : List Rq.Ev) : joinD (l.map Rq.Ev.d) = (Rq.join l).map Rq.Ev.d := by
  have : ∀ n (l : List Rq.Ev), l.length = n → joinD (l.map Rq.Ev.d) = (Rq.join l).map Rq.Ev.d := by
    intro n
    induction n with
    | zero => intro l hl; rw [List.eq_nil_of_length_eq_zero hl]; rfl
    | succ n ih =>
      intro l hl
      rcases List.eq_nil_or_concat l with rfl | ⟨q, x, rfl⟩
      · rfl
      · rw [List.concat_eq_append] at hl ⊢
        rw [List.map_append, List.map_cons, List.map_nil, joinD_snoc, ih q (by simpa using hl), addD_d (Rq.joined_join q), Rq.join_left]
  exact this _ l rfl
theorem sumD_d : ∀ l : List Rq.Ev, sumD (l.map Rq.Ev.d) = Rq.bsum l
  | [] => rfl
  | .body a :: r => by show a.length + sumD (r.map Rq.Ev.d) = a.length + Rq.bsum r; rw [sumD_d r]
  | .head _ :: r => by show 0 + sumD (r.map Rq.Ev.d) = Rq.bsum r; rw [sumD_d r]; omega
  | .fin :: r => by show 0 + sumD (r.map Rq.Ev.d) = Rq.bsum r; rw [sumD_d r]; omega
  | .fail _ :: r => by show 0 + sumD (r.map Rq.Ev.d) = Rq.bsum r; rw [sumD_d r]; omega
end Go.Proofs.YtkafbifogdoneacGreatDoor
