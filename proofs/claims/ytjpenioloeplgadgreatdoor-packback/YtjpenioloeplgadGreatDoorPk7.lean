/- Small texts, one behind the other: PlainHT, PlainHU. -/
import Derived.Test.YtjpenioloeplgadGreatDoorPk6
/- Plain laws of what the value of a filename* means, with no program in them. -/
namespace Go.Proofs.YtjpenioloeplgadGreatDoor.Fm

theorem dec_byte {c : UInt8} {t : List UInt8} (h : c ≠ 37) : dec (c :: t) = (dec t).map (c :: ·) := by rw [dec.eq_def]; simp only []; rw [if_neg h]
theorem dec_hex {a b : UInt8} {r : List UInt8} (ha : 0 ≤ Ch.hex a.toNat) (hb : 0 ≤ Ch.hex b.toNat) : dec (37 :: a :: b :: r) = (dec r).map ((16 * Ch.hex a.toNat + Ch.hex b.toNat).toNat.toUInt8 :: ·) := by
  rw [dec.eq_def]; simp only []; rw [if_pos trivial, if_pos ⟨ha, hb⟩]
theorem dec_bad {a b : UInt8} {r : List UInt8} (h : ¬ (0 ≤ Ch.hex a.toNat ∧ 0 ≤ Ch.hex b.toNat)) : dec (37 :: a :: b :: r) = none := by
  rw [dec.eq_def]; simp only []; rw [if_pos trivial, if_neg h]
theorem dec_short {t : List UInt8} (h : t.length < 2) : dec (37 :: t) = none := by
  match t, h with
  | [], _ => rw [dec.eq_def]; simp only []; rw [if_pos trivial]
  | [_], _ => rw [dec.eq_def]; simp only []; rw [if_pos trivial]
  | _ :: _ :: _, h => simp at h; omega
/-- behind bytes that were read -/
def decs (bs r : List UInt8) : Option (List UInt8) := (dec r).map (bs ++ ·)
theorem decs_nil (bs : List UInt8) : decs bs [] = some bs := by unfold decs; rw [dec]; simp
theorem decs_byte {bs : List UInt8} {c : UInt8} {t : List UInt8} (h : c ≠ 37) : decs bs (c :: t) = decs (bs ++ [c]) t := by
  unfold decs
  rw [dec_byte h, Option.map_map]
  congr 1
  funext x
  simp
theorem decs_hex {bs : List UInt8} {a b : UInt8} {r : List UInt8} (ha : 0 ≤ Ch.hex a.toNat) (hb : 0 ≤ Ch.hex b.toNat) : decs bs (37 :: a :: b :: r) = decs (bs ++ [(16 * Ch.hex a.toNat + Ch.hex b.toNat).toNat.toUInt8]) r := by
  unfold decs
  rw [dec_hex ha hb, Option.map_map]
  congr 1
  funext x
  simp
theorem decs_bad {bs : List UInt8} {a b : UInt8} {r : List UInt8} (h : ¬ (0 ≤ Ch.hex a.toNat ∧ 0 ≤ Ch.hex b.toNat)) : decs bs (37 :: a :: b :: r) = none := by unfold decs; rw [dec_bad h]; rfl
theorem decs_short {bs t : List UInt8} (h : t.length < 2) : decs bs (37 :: t) = none := by unfold decs; rw [dec_short h]; rfl
theorem decs_start (r : List UInt8) : decs [] r = dec r := by unfold decs; simp
theorem number_two (a b : UInt8) : Ch.number 16 6 [a, b] = if 0 ≤ Ch.hex a.toNat ∧ 0 ≤ Ch.hex b.toNat then (16 * Ch.hex a.toNat + Ch.hex b.toNat, true) else (0, false) := by
  have h6 : ¬ (6 : Int) < (([a, b] : List UInt8).length : Int) := by simp
  by_cases h : 0 ≤ Ch.hex a.toNat ∧ 0 ≤ Ch.hex b.toNat
  · rw [if_pos h, Ch.number_yes 16 6 _ (by simp) h6 (by rw [List.all_cons, List.all_cons, Ch.dig16, Ch.dig16, decide_eq_true h.1, decide_eq_true h.2]; rfl)]
    unfold Ch.numOf
    simp only [List.foldl_cons, List.foldl_nil]
    rw [show (0 : Int) * 16 + Ch.hex a.toNat = Ch.hex a.toNat by omega, show Ch.hex a.toNat * 16 + Ch.hex b.toNat = 16 * Ch.hex a.toNat + Ch.hex b.toNat by omega]
  · rw [if_neg h, Ch.number_no 16 6 _ (by
      rw [List.all_cons, List.all_cons, Ch.dig16, Ch.dig16]
      simp only [List.all_nil, Bool.and_true]
      rw [Bool.and_eq_false_iff, decide_eq_false_iff_not, decide_eq_false_iff_not]
      rcases Decidable.not_and_iff_not_or_not.1 h with h | h
      · exact Or.inl h
      · exact Or.inr h)]
theorem byte_two {a b : UInt8} (ha : 0 ≤ Ch.hex a.toNat) (hb : 0 ≤ Ch.hex b.toNat) : ((16 * Ch.hex a.toNat + Ch.hex b.toNat).toNat.toUInt8.toNat : Int) = 16 * Ch.hex a.toNat + Ch.hex b.toNat ∧ 16 * Ch.hex a.toNat + Ch.hex b.toNat ≤ 255 := by
  have h1 := (Ch.hex_byte a).2
  have h2 := (Ch.hex_byte b).2
  generalize Ch.hex (a.toNat : Int) = x at *
  generalize Ch.hex (b.toNat : Int) = y at *
  refine ⟨?_, by omega⟩
  have : (16 * x + y).toNat < 256 := by omega
  have e : (16 * x + y).toNat.toUInt8.toNat = (16 * x + y).toNat := by simp [Nat.toUInt8]; omega
  rw [e]; omega
end Go.Proofs.YtjpenioloeplgadGreatDoor.Fm

/- Plain laws of what a part's fields say, step by step, with no program in them. -/
namespace Go.Proofs.YtjpenioloeplgadGreatDoor.Fm

/-- the parameters of a Content-Disposition, or a code -/
def disp (d : List UInt8 × Nat) : Nat ⊕ List Pm.Par :=
  if d.2 ≠ 0 then .inl d.2
  else match Pm.media d.1 with
    | .inl c => .inl c
    | .inr x => if x.1 ≠ nForm then .inl 11 else .inr x.2
/-- what they say, by the one value of Content-Type -/
def partOf (ps : List Pm.Par) (t : List UInt8 × Nat) : Nat ⊕ Prt :=
  match get nName ps with
  | none => .inl 6
  | some nm => match file ps with
    | none => .inl 5
    | some f => if t.2 = 9 then .inl 9 else .inr ⟨nm, f, t.1⟩
theorem partBy_disp (d t : List UInt8 × Nat) : partBy d t = match disp d with
  | .inl c => .inl c
  | .inr ps => partOf ps t := by
  unfold partBy disp partOf
  by_cases h : d.2 ≠ 0
  · rw [if_pos h, if_pos h]
  · rw [if_neg h, if_neg h]
    cases Pm.media d.1 with
    | inl c => rfl
    | inr x =>
      simp only
      by_cases h2 : x.1 ≠ nForm
      · rw [if_pos h2, if_pos h2]
      · rw [if_neg h2, if_neg h2]
        all_goals
          simp only
          cases get nName x.2 with
          | none => rfl
          | some nm => cases file x.2 <;> rfl
theorem disp_bad {d : List UInt8 × Nat} {c : Nat} (h : d.2 = 0) (hm : Pm.media d.1 = .inl c) : disp d = .inl c := by unfold disp; rw [if_neg (fun e => e h), hm]
theorem disp_kind {d : List UInt8 × Nat} {x : List UInt8 × List Pm.Par} (h : d.2 = 0) (hm : Pm.media d.1 = .inr x) (hx : x.1 ≠ nForm) : disp d = .inl 11 := by unfold disp; rw [if_neg (fun e => e h), hm]; exact if_pos hx
theorem disp_ok {d : List UInt8 × Nat} {x : List UInt8 × List Pm.Par} (h : d.2 = 0) (hm : Pm.media d.1 = .inr x) (hx : x.1 = nForm) : disp d = .inr x.2 := by unfold disp; rw [if_neg (fun e => e h), hm]; exact if_neg (fun e => e hx)
theorem dec_len : ∀ (n : Nat) (l y : List UInt8), l.length ≤ n → dec l = some y → y.length ≤ l.length
  | _, [], y, _, h => by rw [dec] at h; injection h with h; subst h; exact Nat.le_refl _
  | 0, _ :: _, _, hn, _ => by simp at hn
  | n + 1, c :: t, y, hn, h => by
    simp only [List.length_cons] at hn
    by_cases hc : c = 37
    · subst hc
      match t, hn, h with
      | [], _, h => rw [dec_short (by simp)] at h; cases h
      | [_], _, h => rw [dec_short (by simp)] at h; cases h
      | a :: b :: r, hn, h =>
        by_cases hab : 0 ≤ Ch.hex a.toNat ∧ 0 ≤ Ch.hex b.toNat
        · rw [dec_hex hab.1 hab.2] at h
          obtain ⟨z, hz, rfl⟩ := Option.map_eq_some_iff.1 h
          have := dec_len n r z (by simp only [List.length_cons] at hn; omega) hz
          simp only [List.length_cons]; omega
        · rw [dec_bad hab] at h; cases h
    · rw [dec_byte hc] at h
      obtain ⟨z, hz, rfl⟩ := Option.map_eq_some_iff.1 h
      have := dec_len n t z (by omega) hz
      simp only [List.length_cons]; omega
theorem coded_len {l y : List UInt8} (h : coded l = some y) : y.length ≤ l.length := by
  unfold coded at h
  split at h
  · cases h
  · have := dec_len _ _ _ (Nat.le_refl _) h
    rw [List.length_drop] at this; omega
theorem pars_few : ∀ (n : Nat) (r : List UInt8) (acc ps : List Pm.Par), acc.length ≤ 8 → Pm.pars n r acc = .inr ps → ps.length ≤ 8
  | 0, r, acc, ps, h8, h => by rw [Pm.pars] at h; injection h with h; subst h; exact h8
  | n + 1, r, acc, ps, h8, h => by
    rw [Pm.pars] at h
    split at h
    · injection h with h; subst h; exact h8
    · split at h
      · cases h
      · split at h
        · cases h
        · split at h
          · cases h
          · rename_i hne
            exact pars_few n _ _ ps (by rw [List.length_append]; simp; omega) h
theorem media_few {l wd : List UInt8} {ps : List Pm.Par} (h : Pm.media l = .inr (wd, ps)) : ps.length ≤ 8 := by
  unfold Pm.media at h
  split at h
  · cases h
  · split at h
    · cases h
    · unfold Pm.fin at h
      split at h
      · cases h
      · rename_i hp
        injection h with h
        injection h with _ h
        subst h
        exact pars_few _ _ _ _ (Nat.zero_le _) hp
theorem disp_few {d : List UInt8 × Nat} {ps : List Pm.Par} (h : disp d = .inr ps) : ps.length ≤ 8 ∧ ∀ p ∈ ps, p.2.length ≤ d.1.length := by
  unfold disp at h
  split at h
  · cases h
  · split at h
    · cases h
    · rename_i x hm
      split at h
      · cases h
      · injection h with h; subst h
        exact ⟨media_few hm, fun p hp => ((Pm.media_len hm).2 p hp).2⟩
end Go.Proofs.YtjpenioloeplgadGreatDoor.Fm
