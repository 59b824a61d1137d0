/- Plain: entries there and back, and cut off anywhere. -/
import Derived.Test.YtankilclhknbkaaPlainJA
namespace Go.Proofs.Ytankilclhknbkaa.Jn

theorem nil_of_rn {b : List UInt8} (h : b.length = 0) : rn b = none := by
  have : b = [] := List.eq_nil_of_length_eq_zero h
  subst this; rfl
/-- what stands inside is read as it was -/
theorem inner_inn {e : E} (h : fits e = true) : inner (inn e) = some e := by
  obtain ⟨h1, h2, h3, h4⟩ := (fits_iff e).1 h
  have e1 : inn e = nb e.kind ++ (nb e.id ++ (nb e.n ++ e.text)) := by simp [inn, head, List.append_assoc]
  unfold inner
  rw [e1, rn_nb (by omega) (by omega)]
  simp only [List.drop_left]
  rw [rn_nb h2.1 h2.2]
  simp only [List.drop_left]
  rw [rn_nb h3.1 h3.2]
  simp only [List.drop_left]
  rw [if_pos h]
theorem inner_back {b : List UInt8} {e : E} (h : inner b = some e) : inn e = b ∧ fits e = true := by
  unfold inner at h
  cases h1 : rn b with
  | none => rw [h1] at h; simp at h
  | some p =>
    obtain ⟨x, s⟩ := p
    rw [h1] at h
    simp only at h
    cases h2 : rn (b.drop s) with
    | none => rw [h2] at h; simp at h
    | some p =>
      obtain ⟨y, t⟩ := p
      rw [h2] at h
      simp only at h
      cases h3 : rn ((b.drop s).drop t) with
      | none => rw [h3] at h; simp at h
      | some p =>
        obtain ⟨z, u⟩ := p
        rw [h3] at h
        simp only at h
        split at h
        · rename_i hf
          injection h with h
          subst h
          refine ⟨?_, hf⟩
          simp only [inn, head]
          rw [← rn_back h1, ← rn_back h2, ← rn_back h3, List.append_assoc, List.append_assoc, List.take_append_drop, List.take_append_drop, List.take_append_drop]
        · simp at h
theorem one_enc {e : E} (h : fits e = true) (r : List UInt8) : one (enc e ++ r) = some (e, (enc e).length) := by
  have hl := inn_len h
  have e1 : enc e ++ r = num ((inn e).length + 1) ++ (inn e ++ r) := by simp [enc, List.append_assoc]
  have e2 : rn (num ((inn e).length + 1) ++ (inn e ++ r)) = some (((inn e).length : Int), (num ((inn e).length + 1)).length) := by
    unfold rn
    rw [rd_num (by omega)]
    simp only [Option.map_some]
    congr 2
    omega
  unfold one
  rw [e1, e2]
  simp only [List.drop_left]
  rw [if_pos ⟨by omega, by simp only [List.length_append]; omega⟩]
  rw [Int.toNat_natCast, List.take_left, inner_inn h]
  simp [enc]
theorem one_back {b : List UInt8} {e : E} {s : Nat} (h : one b = some (e, s)) : b.take s = enc e ∧ fits e = true := by
  unfold one at h
  cases h1 : rn b with
  | none => rw [h1] at h; simp at h
  | some p =>
    obtain ⟨x, k⟩ := p
    rw [h1] at h
    simp only at h
    split at h
    · rename_i hx
      cases h2 : inner ((b.drop k).take x.toNat) with
      | none => rw [h2] at h; simp at h
      | some e' =>
        rw [h2] at h
        simp only [Option.map_some, Option.some.injEq, Prod.mk.injEq] at h
        obtain ⟨rfl, rfl⟩ := h
        obtain ⟨h3, h4⟩ := inner_back h2
        refine ⟨?_, h4⟩
        have hle := rn_le h1
        have hlen : (inn e').length = x.toNat := by rw [h3, List.length_take, List.length_drop]; omega
        rw [List.take_add, rn_back h1, ← h3]
        unfold enc nb
        congr 2
        omega
    · simp at h
theorem one_cut {e : E} (h : fits e = true) {j : Nat} (hj : j < (enc e).length) : one ((enc e).take j) = none := by
  have hl := inn_len h
  by_cases hn : j < (num ((inn e).length + 1)).length
  · have e1 : (enc e).take j = (num ((inn e).length + 1)).take j := by
      unfold enc; rw [List.take_append_of_le_length (by omega)]
    unfold one rn
    rw [e1, rd_cut hn]
    rfl
  · have e1 : (enc e).take j = num ((inn e).length + 1) ++ (inn e).take (j - (num ((inn e).length + 1)).length) := by
      unfold enc; rw [List.take_append, List.take_of_length_le (by omega)]
    have e2 : ∀ r, rn (num ((inn e).length + 1) ++ r) = some (((inn e).length : Int), (num ((inn e).length + 1)).length) := fun r => by
      unfold rn
      rw [rd_num (by omega)]
      simp only [Option.map_some]
      congr 2
      omega
    unfold one
    rw [e1, e2]
    simp only
    rw [if_neg]
    intro ⟨_, h2⟩
    have hj' : (num ((inn e).length + 1)).length + (inn e).length = (enc e).length := by simp [enc]
    rw [List.length_append, List.length_take] at h2
    omega
theorem one_nil : one [] = none := by
  unfold one; rw [nil_of_rn rfl]
/-- all that is read is written so -/
theorem dec_back : ∀ (N : Nat) (b : List UInt8), b.length ≤ N → (∀ e ∈ (dec b).1, fits e = true) ∧ (dec b).2 ≤ b.length ∧ ((dec b).1.map enc).flatten = b.take (dec b).2 ∧ (dec b).1.length ≤ (dec b).2 := by
  intro N
  induction N with
  | zero =>
    intro b h
    have : b = [] := List.eq_nil_of_length_eq_zero (by omega)
    subst this
    rw [dec_none one_nil]
    simp
  | succ N ih =>
    intro b h
    cases h1 : one b with
    | none => rw [dec_none h1]; simp
    | some p =>
      obtain ⟨e, s⟩ := p
      rw [dec_some h1]
      have hle := one_le h1
      obtain ⟨hb, hf⟩ := one_back h1
      obtain ⟨i1, i2, i3, i4⟩ := ih (b.drop s) (by rw [List.length_drop]; omega)
      rw [List.length_drop] at i2
      refine ⟨fun x hx => ?_, by simp only; omega, ?_, by simp only [List.length_cons]; omega⟩
      · rcases List.mem_cons.1 hx with rfl | hx
        · exact hf
        · exact i1 x hx
      · simp only [List.map_cons, List.flatten_cons]
        rw [i3, List.take_add, hb]

/-- how many entries are whole ahead of a cut, and how many bytes these have -/
def whole : List E → Nat → Nat
  | [], _ => 0
  | e :: t, k => if (enc e).length ≤ k then whole t (k - (enc e).length) + 1 else 0
def all (l : List E) : List UInt8 := (l.map enc).flatten
theorem all_cons (e : E) (t : List E) : all (e :: t) = enc e ++ all t := rfl
theorem all_append (a b : List E) : all (a ++ b) = all a ++ all b := by simp [all]
theorem whole_le : ∀ (l : List E) (k : Nat), whole l k ≤ l.length
  | [], _ => Nat.le_refl _
  | e :: t, k => by
    unfold whole; split
    · have := whole_le t (k - (enc e).length); simp only [List.length_cons]; omega
    · omega
theorem dec_cut : ∀ (l : List E) (k : Nat), (∀ e ∈ l, fits e = true) → dec ((all l).take k) = (l.take (whole l k), (all (l.take (whole l k))).length)
  | [], k, _ => by simp [all, whole, dec_none one_nil]
  | e :: t, k, hf => by
    have he := hf e (List.mem_cons_self ..)
    rw [all_cons]
    unfold whole
    split
    · rename_i hk
      have e1 : (enc e ++ all t).take k = enc e ++ (all t).take (k - (enc e).length) := by
        rw [List.take_append, List.take_of_length_le hk]
      rw [e1, dec_some (one_enc he _), List.drop_left, dec_cut t _ (fun x hx => hf x (List.mem_cons_of_mem _ hx))]
      simp only [List.take_succ_cons, all_cons, List.length_append]
    · rename_i hk
      rw [List.take_append_of_le_length (by omega), dec_none (one_cut he (by omega))]
      simp [all]
/-- where the i-th entry ends -/
def endAt (l : List E) (i : Nat) : Nat := (all (l.take (i + 1))).length
theorem endAt_whole : ∀ (l : List E) (k i : Nat), i < l.length → (endAt l i ≤ k ↔ i < whole l k)
  | [], k, i, hi => by simp at hi
  | e :: t, k, i, hi => by
    have hp := enc_pos e
    unfold whole endAt
    rw [List.take_succ_cons, all_cons, List.length_append]
    split
    · rename_i hk
      cases i with
      | zero => simp [all]; omega
      | succ i =>
        have := endAt_whole t (k - (enc e).length) i (by simpa using hi)
        unfold endAt at this
        constructor
        · intro h; have := this.1 (by omega); omega
        · intro h; have := this.2 (by omega); omega
    · rename_i hk
      constructor
      · intro h; omega
      · intro h; omega
/-- an entry's place among all bytes: its bytes are no more than its text and twenty -/
theorem all_len : ∀ (l : List E) (B : Nat), (∀ e ∈ l, fits e = true ∧ e.text.length ≤ B) → (all l).length ≤ l.length * (B + 20)
  | [], B, _ => by simp [all]
  | e :: t, B, h => by
    have h1 := all_len t B (fun x hx => h x (List.mem_cons_of_mem _ hx))
    obtain ⟨h2, h3⟩ := h e (List.mem_cons_self ..)
    have h4 := enc_text h2
    rw [all_cons, List.length_append, List.length_cons, Nat.add_mul]
    omega
end Go.Proofs.Ytankilclhknbkaa.Jn
