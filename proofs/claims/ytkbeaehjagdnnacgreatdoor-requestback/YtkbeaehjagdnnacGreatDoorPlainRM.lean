/- Plain laws of requests of a stream: two requests that were written one behind the other are read as just these. -/
import Derived.Test.YtkbeaehjagdnnacGreatDoorPk4
namespace Go.Proofs.YtkbeaehjagdnnacGreatDoor.Rq

theorem lines_short : ∀ (fs : List Fl) (s : List UInt8), lines fs = .inr s → s.length ≤ 202 * fs.length
  | [], s, h => by injection h with h; subst h; exact Nat.zero_le _
  | f :: r, s, h => by
    rw [lines] at h
    split at h
    · cases h
    · rename_i h0
      have h0 : (Fd.text f.1 f.2).2 = 0 := by omega
      cases hr : lines r with
      | inl c => rw [hr] at h; cases h
      | inr t =>
        rw [hr] at h
        injection h with h
        subst h
        have ih := lines_short r t hr
        have hl : (Fd.text f.1 f.2).1.length ≤ 200 := by have k1 := Fd.text_length f.1 f.2; have k2 := (Fd.text_zero h0).2; omega
        simp only [List.length_append, List.length_cons]; omega
/-- a request that can be written: its text is not empty, and not long -/
theorem text_size (h : Hd) (a : List UInt8) (hc : (text h a).2 = 0) : 0 < (text h a).1.length ∧ (text h a).1.length ≤ 8000 := by
  unfold text at hc ⊢
  by_cases h1 : Ch.isToken h.method = false
  · rw [if_pos h1] at hc; cases hc
  rw [if_neg h1] at hc ⊢
  by_cases h2 : h.target.head? ≠ some 47 ∨ 32 ∈ h.target ∨ 9 ∈ h.target ∨ Ch.isVisible h.target = false
  · rw [if_pos h2] at hc; cases hc
  rw [if_neg h2] at hc ⊢
  by_cases h3 : 200 < h.method.length + h.target.length + 10 ∨ 4000 < a.length
  · rw [if_pos h3] at hc; cases hc
  rw [if_neg h3] at hc ⊢
  by_cases h4 : 16 ≤ h.fields.length
  · rw [if_pos h4] at hc; cases hc
  rw [if_neg h4] at hc ⊢
  by_cases h5 : vals h.fields nSize ≠ [] ∨ vals h.fields nCode ≠ []
  · rw [if_pos h5] at hc; cases hc
  rw [if_neg h5] at hc ⊢
  by_cases h6 : (vals h.fields nHost).length ≠ 1
  · rw [if_pos h6] at hc; cases hc
  rw [if_neg h6] at hc ⊢
  cases hs : lines h.fields with
  | inl c =>
    rw [hs] at hc
    exfalso
    have key : ∀ fs c, lines fs = .inl c → c ≠ 0 := by
      intro fs
      induction fs with
      | nil => intro c e; cases e
      | cons x r ih =>
        intro c e
        rw [lines] at e
        split at e
        · rename_i hx; injection e with e; subst e; exact hx
        · cases hr : lines r with
          | inl d => rw [hr] at e; injection e with e; subst e; exact ih d hr
          | inr d => rw [hr] at e; cases e
    exact key _ c hs hc
  | inr s =>
    have hl := lines_short h.fields s hs
    have hd := (Ch.decF_length 8 a.length).1
    have e1 : v11.length = 8 := rfl
    have e2 : nCL.length = 14 := rfl
    simp only [List.length_append, List.length_cons, List.length_nil, e1, e2]
    omega
/-- .. and it has one field at least, and not too many -/
theorem text_fields (h : Hd) (a : List UInt8) (hc : (text h a).2 = 0) : 0 < h.fields.length ∧ h.fields.length < 16 ∧ a.length ≤ 4000 := by
  unfold text at hc
  by_cases h1 : Ch.isToken h.method = false
  · rw [if_pos h1] at hc; cases hc
  rw [if_neg h1] at hc
  by_cases h2 : h.target.head? ≠ some 47 ∨ 32 ∈ h.target ∨ 9 ∈ h.target ∨ Ch.isVisible h.target = false
  · rw [if_pos h2] at hc; cases hc
  rw [if_neg h2] at hc
  by_cases h3 : 200 < h.method.length + h.target.length + 10 ∨ 4000 < a.length
  · rw [if_pos h3] at hc; cases hc
  rw [if_neg h3] at hc
  by_cases h4 : 16 ≤ h.fields.length
  · rw [if_pos h4] at hc; cases hc
  rw [if_neg h4] at hc
  by_cases h5 : vals h.fields nSize ≠ [] ∨ vals h.fields nCode ≠ []
  · rw [if_pos h5] at hc; cases hc
  rw [if_neg h5] at hc
  by_cases h6 : (vals h.fields nHost).length ≠ 1
  · rw [if_pos h6] at hc; cases hc
  have h7 : (vals h.fields nHost).length ≤ h.fields.length := by
    unfold vals; rw [List.length_map]; exact List.length_filter_le _ _
  omega
theorem go_nil (f : Nat) : go f [] = ([], false) := by
  cases f with
  | zero => rfl
  | succ f => rfl
/-- NO REQUEST IS TWO -/
theorem back_two (h g : Hd) (a b : List UInt8) (hc : (text h a).2 = 0) (hd : (text g b).2 = 0) :
    Tells start ((text h a).1 ++ (text g b).1) (.head (back h a) :: some_ a ++ .fin :: (.head (back g b) :: some_ b ++ [.fin]), false) := by
  have p1 := (text_size h a hc).1
  have p2 := (text_size g b hd).1
  have h0 := of_run ((text h a).1 ++ (text g b).1)
  unfold of at h0
  rw [go_text h a (text g b).1 _ hc (by rw [List.length_append]; omega)] at h0
  obtain ⟨f, hf⟩ : ∃ f, ((text h a).1 ++ (text g b).1).length = f + 1 := ⟨((text h a).1 ++ (text g b).1).length - 1, by rw [List.length_append]; omega⟩
  have h2 := go_text g b [] f hd (by rw [List.length_append] at hf; simp; omega)
  rw [List.append_nil, go_nil] at h2
  rw [hf, h2] at h0
  exact h0
end Go.Proofs.YtkbeaehjagdnnacGreatDoor.Rq
