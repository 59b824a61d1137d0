/- Small texts, one behind the other: PlainJA, PlainJB, PlainSt. -/
import Derived.WalkKit
/- Plain: a log's entries, as they are written and as they are read; no program in it. -/
namespace Go.Proofs.YtdclmpdjjkjfjaaGreatDoor.Jn

/-- a number (one more than what is told) in groups of seven bits, the lowest first -/
def num (m : Nat) : List UInt8 := if h : m < 128 then [UInt8.ofNat m] else UInt8.ofNat (m % 128 + 128) :: num (m / 128)
termination_by m
decreasing_by omega
theorem num_small {m : Nat} (h : m < 128) : num m = [UInt8.ofNat m] := by rw [num, dif_pos h]
theorem num_great {m : Nat} (h : ¬ m < 128) : num m = UInt8.ofNat (m % 128 + 128) :: num (m / 128) := by rw [num, dif_neg h]
theorem num_pos (m : Nat) : 0 < (num m).length := by
  rw [num]; split <;> simp
theorem toNat_of {k : Nat} (h : k < 256) : (UInt8.ofNat k).toNat = k := by simp; omega
/-- a number of so many groups at most -/
theorem num_len : ∀ (k m : Nat), m < 128 ^ (k + 1) → (num m).length ≤ k + 1 := by
  intro k
  induction k with
  | zero => intro m h; rw [num_small (by simpa using h)]; simp
  | succ k ih =>
    intro m h
    by_cases hm : m < 128
    · rw [num_small hm]; simp
    · rw [num_great hm]
      have : m / 128 < 128 ^ (k + 1) := by rw [Nat.div_lt_iff_lt_mul (by decide)]; rw [Nat.pow_succ] at h; exact h
      have := ih _ this
      simp only [List.length_cons]; omega

/-- the number that stands at the beginning (within k bytes), and how many bytes it has; f: it is the first byte -/
def rdG : Nat → Bool → List UInt8 → Option (Nat × Nat)
  | 0, _, _ => none
  | _ + 1, _, [] => none
  | k + 1, f, c :: r => if c.toNat < 128 then (if c.toNat = 0 ∧ f = false then none else some (c.toNat, 1)) else (rdG k false r).map fun p => (c.toNat % 128 + 128 * p.1, p.2 + 1)
def rd (b : List UInt8) : Option (Nat × Nat) := rdG 5 true b

theorem rdG_nil (k : Nat) (f : Bool) : rdG k f [] = none := by cases k <;> rfl
/-- what is read is no longer than what is there, and no more than five bytes -/
theorem rdG_le : ∀ (k : Nat) (f : Bool) (b : List UInt8) (m s : Nat), rdG k f b = some (m, s) → 0 < s ∧ s ≤ b.length ∧ s ≤ k ∧ m < 128 ^ k := by
  intro k
  induction k with
  | zero => intro f b m s h; simp [rdG] at h
  | succ k ih =>
    intro f b m s h
    cases b with
    | nil => simp [rdG] at h
    | cons c r =>
      rw [rdG] at h
      split at h
      · rename_i hc
        split at h
        · simp at h
        · simp only [Option.some.injEq, Prod.mk.injEq] at h
          obtain ⟨rfl, rfl⟩ := h
          refine ⟨by omega, by simp, by omega, ?_⟩
          have : 1 ≤ 128 ^ k := Nat.one_le_pow _ _ (by decide)
          rw [Nat.pow_succ]; omega
      · cases hr : rdG k false r with
        | none => rw [hr] at h; simp at h
        | some p =>
          rw [hr] at h
          obtain ⟨m', s'⟩ := p
          simp only [Option.map_some, Option.some.injEq, Prod.mk.injEq] at h
          obtain ⟨rfl, rfl⟩ := h
          obtain ⟨h1, h2, h3, h4⟩ := ih _ _ _ _ hr
          refine ⟨by omega, by simp; omega, by omega, ?_⟩
          rw [Nat.pow_succ]; omega
theorem rd_le {b : List UInt8} {m s : Nat} (h : rd b = some (m, s)) : 0 < s ∧ s ≤ b.length ∧ s ≤ 5 ∧ m < 34359738368 := rdG_le 5 true b m s h
/-- a number that is written is read, whatever stands behind it -/
theorem rdG_num : ∀ (k m : Nat) (f : Bool) (r : List UInt8), m < 128 ^ (k + 1) → (m = 0 → f = true) → rdG (k + 1) f (num m ++ r) = some (m, (num m).length) := by
  intro k
  induction k with
  | zero =>
    intro m f r h hf
    have hm : m < 128 := by simpa using h
    rw [num_small hm]
    simp only [List.cons_append, List.nil_append, rdG, List.length_cons, List.length_nil]
    rw [toNat_of (by omega), if_pos hm, if_neg]
    intro ⟨h1, h2⟩
    have := hf h1; rw [this] at h2; cases h2
  | succ k ih =>
    intro m f r h hf
    by_cases hm : m < 128
    · rw [num_small hm]
      simp only [List.cons_append, List.nil_append, rdG, List.length_cons, List.length_nil]
      rw [toNat_of (by omega), if_pos hm, if_neg]
      intro ⟨h1, h2⟩
      have := hf h1; rw [this] at h2; cases h2
    · rw [num_great hm]
      have h1 : m / 128 < 128 ^ (k + 1) := by rw [Nat.div_lt_iff_lt_mul (by decide)]; rw [Nat.pow_succ] at h; exact h
      rw [List.cons_append, rdG, toNat_of (by omega), if_neg (by omega), ih _ false r h1 (fun e => by omega)]
      simp only [Option.map_some, List.length_cons]
      congr 2
      omega
theorem rd_num {m : Nat} (h : m < 34359738368) (r : List UInt8) : rd (num m ++ r) = some (m, (num m).length) := rdG_num 4 m true r h (fun _ => rfl)
/-- a number that is cut off is none -/
theorem rdG_cut : ∀ (k m : Nat) (f : Bool) (j : Nat), j < (num m).length → rdG k f ((num m).take j) = none := by
  intro k
  induction k with
  | zero => intros; rfl
  | succ k ih =>
    intro m f j hj
    cases j with
    | zero => rfl
    | succ j =>
      by_cases hm : m < 128
      · rw [num_small hm] at hj; simp at hj
      · rw [num_great hm] at hj ⊢
        rw [List.take_succ_cons, rdG, toNat_of (by omega), if_neg (by omega), ih _ _ _ (by simpa using hj)]
        rfl
theorem rd_cut {m j : Nat} (h : j < (num m).length) : rd ((num m).take j) = none := rdG_cut 5 m true j h
/-- what is read is written so -/
theorem rdG_back : ∀ (k : Nat) (f : Bool) (b : List UInt8) (m s : Nat), rdG k f b = some (m, s) → b.take s = num m ∧ (m = 0 → f = true) := by
  intro k
  induction k with
  | zero => intro f b m s h; simp [rdG] at h
  | succ k ih =>
    intro f b m s h
    cases b with
    | nil => simp [rdG] at h
    | cons c r =>
      rw [rdG] at h
      split at h
      · rename_i hc
        split at h
        · simp at h
        · rename_i hz
          simp only [Option.some.injEq, Prod.mk.injEq] at h
          obtain ⟨rfl, rfl⟩ := h
          refine ⟨?_, fun e => ?_⟩
          · rw [num_small hc]; simp
          · cases f
            · exact absurd ⟨e, rfl⟩ hz
            · rfl
      · cases hr : rdG k false r with
        | none => rw [hr] at h; simp at h
        | some p =>
          rw [hr] at h
          obtain ⟨m', s'⟩ := p
          simp only [Option.map_some, Option.some.injEq, Prod.mk.injEq] at h
          obtain ⟨rfl, rfl⟩ := h
          obtain ⟨h1, h2⟩ := ih _ _ _ _ hr
          have hm : m' ≠ 0 := fun e => by have := h2 e; cases this
          have hc := c.toNat_lt
          refine ⟨?_, fun e => by omega⟩
          rw [num_great (by omega), List.take_succ_cons, h1]
          congr 1
          · apply UInt8.toNat_inj.1
            rw [toNat_of (by omega)]
            omega
          · congr 1; omega
theorem rd_back {b : List UInt8} {m s : Nat} (h : rd b = some (m, s)) : b.take s = num m := (rdG_back 5 true b m s h).1
/-- a loop over the bytes: behind i of them that go on -/
theorem rdG_at (b : List UInt8) (i : Nat) (hi : i < 5) (hl : i < b.length) (k : Nat) (hk : k = 5 - i) (f : Bool) : rdG k f (b.drop i) = if b[i].toNat < 128 then (if b[i].toNat = 0 ∧ f = false then none else some (b[i].toNat, 1)) else (rdG (5 - (i + 1)) false (b.drop (i + 1))).map fun p => (b[i].toNat % 128 + 128 * p.1, p.2 + 1) := by
  obtain ⟨k', rfl⟩ : ∃ k', k = k' + 1 := ⟨5 - (i + 1), by omega⟩
  rw [List.drop_eq_getElem_cons hl, rdG]
  have : k' = 5 - (i + 1) := by omega
  rw [this]

/-- an entry -/
structure E where
  kind : Int
  id : Int
  n : Int
  text : List UInt8
def fits (e : E) : Bool := decide (1 ≤ e.kind) && decide (e.kind ≤ 6) && decide (-1 ≤ e.id) && decide (e.id ≤ 1073741823) && decide (-1 ≤ e.n) && decide (e.n ≤ 1073741823) && decide (e.text.length ≤ 1048575)
theorem fits_iff (e : E) : fits e = true ↔ (1 ≤ e.kind ∧ e.kind ≤ 6) ∧ (-1 ≤ e.id ∧ e.id ≤ 1073741823) ∧ (-1 ≤ e.n ∧ e.n ≤ 1073741823) ∧ e.text.length ≤ 1048575 := by
  simp only [fits, Bool.and_eq_true, decide_eq_true_eq, and_assoc]
/-- a number's bytes, as it is told -/
def nb (x : Int) : List UInt8 := num (x + 1).toNat
def head (e : E) : List UInt8 := nb e.kind ++ nb e.id ++ nb e.n
def inn (e : E) : List UInt8 := head e ++ e.text
def enc (e : E) : List UInt8 := num ((inn e).length + 1) ++ inn e
theorem nb_len {x : Int} (h : x ≤ 1073741823) : (nb x).length ≤ 5 ∧ 0 < (nb x).length := ⟨num_len 4 _ (by omega), num_pos _⟩
theorem head_len {e : E} (h : fits e = true) : (head e).length ≤ 15 := by
  obtain ⟨h1, h2, h3, h4⟩ := (fits_iff e).1 h
  have a := nb_len (x := e.kind) (by omega)
  have b := nb_len h2.2
  have c := nb_len h3.2
  simp only [head, List.length_append]; omega
theorem inn_len {e : E} (h : fits e = true) : (inn e).length ≤ 1048590 := by
  have := head_len h
  obtain ⟨h1, h2, h3, h4⟩ := (fits_iff e).1 h
  simp only [inn, List.length_append]; omega
theorem enc_len {e : E} (h : fits e = true) : (enc e).length ≤ (inn e).length + 5 := by
  have := inn_len h
  have := num_len 4 ((inn e).length + 1) (by omega)
  simp only [enc, List.length_append]; omega
theorem enc_pos (e : E) : 0 < (enc e).length := by
  have := num_pos ((inn e).length + 1)
  simp only [enc, List.length_append]; omega
theorem enc_text {e : E} (h : fits e = true) : (enc e).length ≤ e.text.length + 20 := by
  have h1 := enc_len h
  have h2 := head_len h
  have : (inn e).length = (head e).length + e.text.length := by simp [inn]
  omega

/-- a number that is told, at the beginning -/
def rn (b : List UInt8) : Option (Int × Nat) := (rd b).map fun p => ((p.1 : Int) - 1, p.2)
theorem rn_nb {x : Int} (h0 : -1 ≤ x) (h1 : x ≤ 1073741823) (r : List UInt8) : rn (nb x ++ r) = some (x, (nb x).length) := by
  unfold rn nb
  rw [rd_num (by omega)]
  simp only [Option.map_some]
  congr 2
  omega
theorem rn_le {b : List UInt8} {x : Int} {s : Nat} (h : rn b = some (x, s)) : 0 < s ∧ s ≤ b.length ∧ s ≤ 5 ∧ -1 ≤ x ∧ x < 34359738368 := by
  unfold rn at h
  cases hr : rd b with
  | none => rw [hr] at h; simp at h
  | some p =>
    rw [hr] at h
    obtain ⟨m, s'⟩ := p
    simp only [Option.map_some, Option.some.injEq, Prod.mk.injEq] at h
    obtain ⟨rfl, rfl⟩ := h
    have := rd_le hr
    omega
theorem rn_back {b : List UInt8} {x : Int} {s : Nat} (h : rn b = some (x, s)) : b.take s = nb x := by
  unfold rn at h
  cases hr : rd b with
  | none => rw [hr] at h; simp at h
  | some p =>
    rw [hr] at h
    obtain ⟨m, s'⟩ := p
    simp only [Option.map_some, Option.some.injEq, Prod.mk.injEq] at h
    obtain ⟨rfl, rfl⟩ := h
    rw [rd_back hr]
    unfold nb; congr 1; omega
/-- the bytes behind how many they are -/
def inner (b : List UInt8) : Option E :=
  match rn b with
  | none => none
  | some (x, s) =>
    match rn (b.drop s) with
    | none => none
    | some (y, t) =>
      match rn ((b.drop s).drop t) with
      | none => none
      | some (z, u) => if fits ⟨x, y, z, ((b.drop s).drop t).drop u⟩ = true then some ⟨x, y, z, ((b.drop s).drop t).drop u⟩ else none
/-- the entry at the beginning, and how many bytes it has -/
def one (b : List UInt8) : Option (E × Nat) :=
  match rn b with
  | none => none
  | some (x, s) => if 0 ≤ x ∧ x ≤ (b.length : Int) - s then (inner ((b.drop s).take x.toNat)).map fun e => (e, s + x.toNat) else none
theorem one_le {b : List UInt8} {e : E} {s : Nat} (h : one b = some (e, s)) : 0 < s ∧ s ≤ b.length := by
  unfold one at h
  cases hr : rn b with
  | none => rw [hr] at h; simp at h
  | some p =>
    rw [hr] at h
    obtain ⟨x, s'⟩ := p
    simp only at h
    split at h
    · cases hi : inner ((b.drop s').take x.toNat) with
      | none => rw [hi] at h; simp at h
      | some e' =>
        rw [hi] at h
        simp only [Option.map_some, Option.some.injEq, Prod.mk.injEq] at h
        have := rn_le hr
        omega
    · simp at h
/-- all entries that stand whole, and how many bytes they have -/
def dec (b : List UInt8) : List E × Nat :=
  match _h : one b with
  | none => ([], 0)
  | some (e, s) => (e :: (dec (b.drop s)).1, s + (dec (b.drop s)).2)
termination_by b.length
decreasing_by
  all_goals
    have := one_le _h
    rw [List.length_drop]; omega
theorem dec_none {b : List UInt8} (h : one b = none) : dec b = ([], 0) := by
  rw [dec]; split
  · rfl
  · rename_i h2; rw [h] at h2; cases h2
theorem dec_some {b : List UInt8} {e : E} {s : Nat} (h : one b = some (e, s)) : dec b = (e :: (dec (b.drop s)).1, s + (dec (b.drop s)).2) := by
  rw [dec]; split
  · rename_i h2; rw [h] at h2; cases h2
  · rename_i e' s' h2
    rw [h] at h2; injection h2 with h2; injection h2 with h3 h4
    subst h3; subst h4; rfl
end Go.Proofs.YtdclmpdjjkjfjaaGreatDoor.Jn

/- Plain: entries there and back, and cut off anywhere. -/
namespace Go.Proofs.YtdclmpdjjkjfjaaGreatDoor.Jn

theorem nil_of_rn {b : List UInt8} (h : b.length = 0) : rn b = none := by
  have : b = [] := List.eq_nil_of_length_eq_zero h
  subst this; rfl
/-- what stands inside is read as it was -/
theorem inner_inn {e : E} (h : fits e = true) : inner (inn e) = some e := by
  obtain ⟨h1, h2, h3, h4⟩ := (fits_iff e).1 h
  have e1 : inn e = nb e.kind ++ (nb e.id ++ (nb e.n ++ e.text)) := by simp [inn, head, List.append_assoc]
  unfold inner
  rw [e1, rn_nb (by omega) (by omega)]
  simp only [List.drop_left]
  rw [rn_nb h2.1 h2.2]
  simp only [List.drop_left]
  rw [rn_nb h3.1 h3.2]
  simp only [List.drop_left]
  rw [if_pos h]
theorem inner_back {b : List UInt8} {e : E} (h : inner b = some e) : inn e = b ∧ fits e = true := by
  unfold inner at h
  cases h1 : rn b with
  | none => rw [h1] at h; simp at h
  | some p =>
    obtain ⟨x, s⟩ := p
    rw [h1] at h
    simp only at h
    cases h2 : rn (b.drop s) with
    | none => rw [h2] at h; simp at h
    | some p =>
      obtain ⟨y, t⟩ := p
      rw [h2] at h
      simp only at h
      cases h3 : rn ((b.drop s).drop t) with
      | none => rw [h3] at h; simp at h
      | some p =>
        obtain ⟨z, u⟩ := p
        rw [h3] at h
        simp only at h
        split at h
        · rename_i hf
          injection h with h
          subst h
          refine ⟨?_, hf⟩
          simp only [inn, head]
          rw [← rn_back h1, ← rn_back h2, ← rn_back h3, List.append_assoc, List.append_assoc, List.take_append_drop, List.take_append_drop, List.take_append_drop]
        · simp at h
theorem one_enc {e : E} (h : fits e = true) (r : List UInt8) : one (enc e ++ r) = some (e, (enc e).length) := by
  have hl := inn_len h
  have e1 : enc e ++ r = num ((inn e).length + 1) ++ (inn e ++ r) := by simp [enc, List.append_assoc]
  have e2 : rn (num ((inn e).length + 1) ++ (inn e ++ r)) = some (((inn e).length : Int), (num ((inn e).length + 1)).length) := by
    unfold rn
    rw [rd_num (by omega)]
    simp only [Option.map_some]
    congr 2
    omega
  unfold one
  rw [e1, e2]
  simp only [List.drop_left]
  rw [if_pos ⟨by omega, by simp only [List.length_append]; omega⟩]
  rw [Int.toNat_natCast, List.take_left, inner_inn h]
  simp [enc]
theorem one_back {b : List UInt8} {e : E} {s : Nat} (h : one b = some (e, s)) : b.take s = enc e ∧ fits e = true := by
  unfold one at h
  cases h1 : rn b with
  | none => rw [h1] at h; simp at h
  | some p =>
    obtain ⟨x, k⟩ := p
    rw [h1] at h
    simp only at h
    split at h
    · rename_i hx
      cases h2 : inner ((b.drop k).take x.toNat) with
      | none => rw [h2] at h; simp at h
      | some e' =>
        rw [h2] at h
        simp only [Option.map_some, Option.some.injEq, Prod.mk.injEq] at h
        obtain ⟨rfl, rfl⟩ := h
        obtain ⟨h3, h4⟩ := inner_back h2
        refine ⟨?_, h4⟩
        have hle := rn_le h1
        have hlen : (inn e').length = x.toNat := by rw [h3, List.length_take, List.length_drop]; omega
        rw [List.take_add, rn_back h1, ← h3]
        unfold enc nb
        congr 2
        omega
    · simp at h
theorem one_cut {e : E} (h : fits e = true) {j : Nat} (hj : j < (enc e).length) : one ((enc e).take j) = none := by
  have hl := inn_len h
  by_cases hn : j < (num ((inn e).length + 1)).length
  · have e1 : (enc e).take j = (num ((inn e).length + 1)).take j := by
      unfold enc; rw [List.take_append_of_le_length (by omega)]
    unfold one rn
    rw [e1, rd_cut hn]
    rfl
  · have e1 : (enc e).take j = num ((inn e).length + 1) ++ (inn e).take (j - (num ((inn e).length + 1)).length) := by
      unfold enc; rw [List.take_append, List.take_of_length_le (by omega)]
    have e2 : ∀ r, rn (num ((inn e).length + 1) ++ r) = some (((inn e).length : Int), (num ((inn e).length + 1)).length) := fun r => by
      unfold rn
      rw [rd_num (by omega)]
      simp only [Option.map_some]
      congr 2
      omega
    unfold one
    rw [e1, e2]
    simp only
    rw [if_neg]
    intro ⟨_, h2⟩
    have hj' : (num ((inn e).length + 1)).length + (inn e).length = (enc e).length := by simp [enc]
    rw [List.length_append, List.length_take] at h2
    omega
theorem one_nil : one [] = none := by
  unfold one; rw [nil_of_rn rfl]
/-- all that is read is written so -/
theorem dec_back : ∀ (N : Nat) (b : List UInt8), b.length ≤ N → (∀ e ∈ (dec b).1, fits e = true) ∧ (dec b).2 ≤ b.length ∧ ((dec b).1.map enc).flatten = b.take (dec b).2 ∧ (dec b).1.length ≤ (dec b).2 := by
  intro N
  induction N with
  | zero =>
    intro b h
    have : b = [] := List.eq_nil_of_length_eq_zero (by omega)
    subst this
    rw [dec_none one_nil]
    simp
  | succ N ih =>
    intro b h
    cases h1 : one b with
    | none => rw [dec_none h1]; simp
    | some p =>
      obtain ⟨e, s⟩ := p
      rw [dec_some h1]
      have hle := one_le h1
      obtain ⟨hb, hf⟩ := one_back h1
      obtain ⟨i1, i2, i3, i4⟩ := ih (b.drop s) (by rw [List.length_drop]; omega)
      rw [List.length_drop] at i2
      refine ⟨fun x hx => ?_, by simp only; omega, ?_, by simp only [List.length_cons]; omega⟩
      · rcases List.mem_cons.1 hx with rfl | hx
        · exact hf
        · exact i1 x hx
      · simp only [List.map_cons, List.flatten_cons]
        rw [i3, List.take_add, hb]

/-- how many entries are whole ahead of a cut, and how many bytes these have -/
def whole : List E → Nat → Nat
  | [], _ => 0
  | e :: t, k => if (enc e).length ≤ k then whole t (k - (enc e).length) + 1 else 0
def all (l : List E) : List UInt8 := (l.map enc).flatten
theorem all_cons (e : E) (t : List E) : all (e :: t) = enc e ++ all t := rfl
theorem all_append (a b : List E) : all (a ++ b) = all a ++ all b := by simp [all]
theorem whole_le : ∀ (l : List E) (k : Nat), whole l k ≤ l.length
  | [], _ => Nat.le_refl _
  | e :: t, k => by
    unfold whole; split
    · have := whole_le t (k - (enc e).length); simp only [List.length_cons]; omega
    · omega
theorem dec_cut : ∀ (l : List E) (k : Nat), (∀ e ∈ l, fits e = true) → dec ((all l).take k) = (l.take (whole l k), (all (l.take (whole l k))).length)
  | [], k, _ => by simp [all, whole, dec_none one_nil]
  | e :: t, k, hf => by
    have he := hf e (List.mem_cons_self ..)
    rw [all_cons]
    unfold whole
    split
    · rename_i hk
      have e1 : (enc e ++ all t).take k = enc e ++ (all t).take (k - (enc e).length) := by
        rw [List.take_append, List.take_of_length_le hk]
      rw [e1, dec_some (one_enc he _), List.drop_left, dec_cut t _ (fun x hx => hf x (List.mem_cons_of_mem _ hx))]
      simp only [List.take_succ_cons, all_cons, List.length_append]
    · rename_i hk
      rw [List.take_append_of_le_length (by omega), dec_none (one_cut he (by omega))]
      simp [all]
/-- where the i-th entry ends -/
def endAt (l : List E) (i : Nat) : Nat := (all (l.take (i + 1))).length
theorem endAt_whole : ∀ (l : List E) (k i : Nat), i < l.length → (endAt l i ≤ k ↔ i < whole l k)
  | [], k, i, hi => by simp at hi
  | e :: t, k, i, hi => by
    have hp := enc_pos e
    unfold whole endAt
    rw [List.take_succ_cons, all_cons, List.length_append]
    split
    · rename_i hk
      cases i with
      | zero => simp [all]; omega
      | succ i =>
        have := endAt_whole t (k - (enc e).length) i (by simpa using hi)
        unfold endAt at this
        constructor
        · intro h; have := this.1 (by omega); omega
        · intro h; have := this.2 (by omega); omega
    · rename_i hk
      constructor
      · intro h; omega
      · intro h; omega
/-- an entry's place among all bytes: its bytes are no more than its text and twenty -/
theorem all_len : ∀ (l : List E) (B : Nat), (∀ e ∈ l, fits e = true ∧ e.text.length ≤ B) → (all l).length ≤ l.length * (B + 20)
  | [], B, _ => by simp [all]
  | e :: t, B, h => by
    have h1 := all_len t B (fun x hx => h x (List.mem_cons_of_mem _ hx))
    obtain ⟨h2, h3⟩ := h e (List.mem_cons_self ..)
    have h4 := enc_text h2
    rw [all_cons, List.length_append, List.length_cons, Nat.add_mul]
    omega
end Go.Proofs.YtdclmpdjjkjfjaaGreatDoor.Jn

/- Plain: steps that are asked, and how many bytes their texts have. -/
namespace Go.Proofs.YtdclmpdjjkjfjaaGreatDoor

/-- a step that is asked of a spool -/
structure Stp where
  op : Int
  id : Int
  n : Int
  text : ByteArray
/-- how many bytes the texts have -/
def stpN : List Stp → Nat
  | [] => 0
  | s :: t => s.text.size + stpN t
theorem stpN_append : ∀ a b : List Stp, stpN (a ++ b) = stpN a + stpN b
  | [], b => by simp [stpN]
  | u :: t, b => by rw [List.cons_append, stpN, stpN, stpN_append t b]; omega
theorem stpN_take (l : List Stp) (k : Nat) (h : k < l.length) : stpN (l.take (k + 1)) = stpN (l.take k) + l[k].text.size := by
  rw [List.take_succ_eq_append_getElem h, stpN_append]
  simp [stpN]
theorem stpN_le (l : List Stp) (k : Nat) : stpN (l.take k) ≤ stpN l := by
  conv => rhs; rw [← List.take_append_drop k l, stpN_append]
  omega
theorem stpN_bound : ∀ (l : List Stp), (∀ p ∈ l, p.text.size ≤ 140737488355328) → stpN l ≤ l.length * 140737488355328
  | [], _ => by simp [stpN]
  | s :: t, h => by
    have := stpN_bound t (fun p hp => h p (by simp [hp]))
    have := h s (by simp)
    rw [stpN, List.length_cons]; omega
theorem stpN_one (l : List Stp) (k : Nat) (h : k < l.length) : l[k].text.size ≤ stpN l := by
  have h1 := stpN_take l k h
  have h2 := stpN_le l (k + 1)
  omega
end Go.Proofs.YtdclmpdjjkjfjaaGreatDoor
