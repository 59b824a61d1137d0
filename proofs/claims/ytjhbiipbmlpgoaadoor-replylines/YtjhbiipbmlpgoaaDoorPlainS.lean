/- Plain laws of a mark in a stream, with no program in them: the longest end of what came that begins the mark, and how one more byte turns it. -/
import Derived.Below
namespace Go.Proofs.YtjhbiipbmlpgoaaDoor.Sk

/-- the longest beginning of m, of at most b bytes, that ends x -/
def best (m x : List UInt8) : Nat → Nat
  | 0 => 0
  | k + 1 => if m.take (k + 1) <:+ x then k + 1 else best m x k
/-- r is that -/
def IsBest (m x : List UInt8) (b r : Nat) : Prop := r ≤ b ∧ m.take r <:+ x ∧ ∀ k, r < k → k ≤ b → ¬ m.take k <:+ x

theorem best_is (m x : List UInt8) : ∀ b, IsBest m x b (best m x b) := by
  intro b
  induction b with
  | zero => exact ⟨Nat.le_refl _, by simp [best], fun k h1 h2 => by simp [best] at h1; omega⟩
  | succ b ih =>
    unfold best
    by_cases h : m.take (b + 1) <:+ x
    · rw [if_pos h]; exact ⟨Nat.le_refl _, h, fun k h1 h2 => by omega⟩
    · rw [if_neg h]
      refine ⟨by have := ih.1; omega, ih.2.1, fun k h1 h2 => ?_⟩
      by_cases e : k = b + 1
      · subst e; exact h
      · exact ih.2.2 k h1 (by omega)
theorem IsBest.eq {m x : List UInt8} {b r r' : Nat} (h : IsBest m x b r) (h' : IsBest m x b r') : r = r' := by
  rcases Nat.lt_trichotomy r r' with l | l | l
  · exact absurd h'.2.1 (h.2.2 r' l h'.1)
  · exact l
  · exact absurd h.2.1 (h'.2.2 r l h.1)
theorem IsBest.best {m x : List UInt8} {b r : Nat} (h : IsBest m x b r) : best m x b = r := (best_is m x b).eq h
theorem best_le (m x : List UInt8) (b : Nat) : best m x b ≤ b := (best_is m x b).1

theorem take_snoc (m : List UInt8) (j : Nat) (h : j < m.length) : m.take (j + 1) = m.take j ++ [m[j]] := List.take_succ_eq_append_getElem h
theorem snoc_suffix (t x : List UInt8) (a c : UInt8) : t ++ [a] <:+ x ++ [c] ↔ t <:+ x ∧ a = c := by
  constructor
  · rintro ⟨y, hy⟩
    rw [← List.append_assoc] at hy
    obtain ⟨h1, h2⟩ := List.append_inj' hy rfl
    exact ⟨⟨y, h1⟩, by simpa using h2⟩
  · rintro ⟨⟨y, hy⟩, rfl⟩
    exact ⟨y, by rw [← List.append_assoc, hy]⟩
/-- one byte more: an end begins the mark if what was ahead of it did -/
theorem step_iff (m x : List UInt8) (c : UInt8) (j : Nat) (h : j < m.length) : m.take (j + 1) <:+ x ++ [c] ↔ m.take j <:+ x ∧ m[j] = c := by
  rw [take_snoc m j h, snoc_suffix]
theorem within {m x : List UInt8} {j k : Nat} (hj : m.take j <:+ x) (hk : m.take k <:+ x) (h : j ≤ k) : m.take j <:+ m.take k :=
  List.suffix_of_suffix_length_le hj hk (by rw [List.length_take, List.length_take]; omega)

/-- what the going back keeps: k bytes of the mark end its first n, and none that is longer, and at most n, goes on with c -/
def Back (m : List UInt8) (n : Nat) (c : UInt8) (k : Nat) : Prop :=
  k ≤ n ∧ m.take k <:+ m.take n ∧ ∀ j, k < j → j ≤ n → (hj : j < m.length) → m.take j <:+ m.take n → m[j] ≠ c
theorem back_start (m : List UInt8) (n : Nat) (c : UInt8) : Back m n c n := ⟨Nat.le_refl _, List.suffix_refl _, fun j h1 h2 => by omega⟩
theorem back_step {m : List UInt8} {n k : Nat} {c : UInt8} (h : Back m n c k) (hk : k < m.length) (h0 : 0 < k) (hc : m[k] ≠ c) : Back m n c (best m (m.take k) (k - 1)) := by
  have hb := best_is m (m.take k) (k - 1)
  generalize best m (m.take k) (k - 1) = r at hb
  refine ⟨by have := hb.1; have := h.1; omega, hb.2.1.trans h.2.1, fun j h1 h2 hj hs => ?_⟩
  by_cases e : j = k
  · subst e; exact hc
  · by_cases g : k < j
    · exact h.2.2 j g h2 hj hs
    · exact absurd (within hs h.2.1 (by omega)) (hb.2.2 j h1 (by omega))
theorem back_yes {m : List UInt8} {n k : Nat} {c : UInt8} (h : Back m n c k) (hn : n < m.length) (hk : k < m.length) (hc : m[k] = c) : IsBest m (m.take n ++ [c]) m.length (k + 1) := by
  refine ⟨by omega, (step_iff m _ c k hk).2 ⟨h.2.1, hc⟩, fun j h1 h2 hs => ?_⟩
  obtain ⟨i, rfl⟩ : ∃ i, j = i + 1 := ⟨j - 1, by omega⟩
  obtain ⟨hs1, hs2⟩ := (step_iff m _ c i (by omega)).1 hs
  have hin : i ≤ n := by
    have := hs1.length_le
    rw [List.length_take, List.length_take] at this; omega
  exact h.2.2 i (by omega) hin (by omega) hs1 hs2
theorem back_no {m : List UInt8} {n : Nat} {c : UInt8} (h : Back m n c 0) (hn : n < m.length) (hm : 0 < m.length) (hc : m[0] ≠ c) : IsBest m (m.take n ++ [c]) m.length 0 := by
  refine ⟨by omega, by simp, fun j h1 h2 hs => ?_⟩
  obtain ⟨i, rfl⟩ : ∃ i, j = i + 1 := ⟨j - 1, by omega⟩
  obtain ⟨hs1, hs2⟩ := (step_iff m _ c i (by omega)).1 hs
  have hin : i ≤ n := by
    have := hs1.length_le
    rw [List.length_take, List.length_take] at this; omega
  by_cases e : i = 0
  · subst e; exact hc hs2
  · exact h.2.2 i (by omega) hin (by omega) hs1 hs2
theorem none_is (x : List UInt8) : IsBest [] x 0 0 := ⟨Nat.le_refl _, by simp, fun k h1 h2 => by omega⟩

/-- how much of the mark there is with c behind its first n bytes -/
def fit (m : List UInt8) (n : Nat) (c : UInt8) : Nat := best m (m.take n ++ [c]) m.length
theorem fit_is (m : List UInt8) (n : Nat) (c : UInt8) : IsBest m (m.take n ++ [c]) m.length (fit m n c) := best_is _ _ _
theorem fit_le (m : List UInt8) (n : Nat) (c : UInt8) : fit m n c ≤ m.length := best_le _ _ _
theorem fit_le' (m : List UInt8) (n : Nat) (c : UInt8) : fit m n c ≤ n + 1 := by
  have h := (fit_is m n c).2.1.length_le
  have h2 := fit_le m n c
  simp at h; omega
/-- how many of the mark's first n bytes, but not all n, end them and begin the mark -/
def bk (m : List UInt8) (n : Nat) : Nat := best m (m.take n) (n - 1)
theorem bk_lt (m : List UInt8) (n : Nat) (h : 0 < n) : bk m n < n := by have := best_le m (m.take n) (n - 1); unfold bk; omega
theorem bk_le (m : List UInt8) (n : Nat) : bk m n ≤ n - 1 := best_le m (m.take n) (n - 1)
theorem bk_zero (m : List UInt8) : bk m 0 = 0 := rfl
theorem bk_one (m : List UInt8) : bk m 1 = 0 := rfl
theorem bk_next (m : List UInt8) (n : Nat) (h0 : 0 < n) (h : n < m.length) : bk m (n + 1) = fit m (bk m n) m[n] := by
  have hb : IsBest m (m.take n) (n - 1) (bk m n) := best_is _ _ _
  have hf := fit_is m (bk m n) m[n]
  have hle := fit_le' m (bk m n) m[n]
  have hlt := bk_lt m n h0
  generalize bk m n = b at *
  generalize fit m b m[n] = r at *
  show best m (m.take (n + 1)) n = r
  refine IsBest.best ⟨by omega, ?_, fun j h1 h2 hs => ?_⟩
  · rw [take_snoc m n h]
    refine hf.2.1.trans ((snoc_suffix _ _ _ _).2 ⟨hb.2.1, rfl⟩)
  · obtain ⟨i, rfl⟩ : ∃ i, j = i + 1 := ⟨j - 1, by omega⟩
    rw [take_snoc m n h] at hs
    obtain ⟨hs1, hs2⟩ := (step_iff m _ _ i (by omega)).1 hs
    have hib : i ≤ b := by
      refine Nat.le_of_not_lt fun hlt => hb.2.2 i hlt (by omega) hs1
    exact hf.2.2 (i + 1) h1 (by omega) ((step_iff m _ _ i (by omega)).2 ⟨within hs1 hb.2.1 hib, hs2⟩)

/-- what is held of what came -/
def held (m x : List UInt8) : Nat := best m x (m.length - 1)
theorem held_is (m x : List UInt8) : IsBest m x (m.length - 1) (held m x) := best_is _ _ _
theorem held_le (m x : List UInt8) : held m x ≤ m.length - 1 := best_le _ _ _
theorem held_nil (m : List UInt8) : held m [] = 0 := by
  have h := (held_is m []).2.1.length_le
  have h2 := held_le m []
  rw [List.length_take] at h; simp at h
  rcases h with h | h
  · exact h
  · subst h; simpa using h2
theorem held_le_len (m x : List UInt8) : held m x ≤ x.length := by
  have h := (held_is m x).2.1.length_le
  have := held_le m x
  rw [List.length_take] at h; omega
theorem held_drop (m x : List UInt8) : x.drop (x.length - held m x) = m.take (held m x) := by
  have h := (held_is m x).2.1
  have hl := held_le m x
  obtain ⟨y, hy⟩ := h
  have e : x.length = y.length + held m x := by
    have := congrArg List.length hy
    rw [List.length_append, List.length_take] at this; omega
  rw [e, Nat.add_sub_cancel]
  conv => lhs; rw [← hy]
  exact List.drop_left
/-- with one byte more just what is held matters -/
theorem fit_held (m x : List UInt8) (c : UInt8) : IsBest m (x ++ [c]) m.length (fit m (held m x) c) := by
  have hh := held_is m x
  have hf := fit_is m (held m x) c
  generalize held m x = h at *
  generalize fit m h c = r at *
  refine ⟨hf.1, hf.2.1.trans ((snoc_suffix _ _ _ _).2 ⟨hh.2.1, rfl⟩), fun j h1 h2 hs => ?_⟩
  obtain ⟨i, rfl⟩ : ∃ i, j = i + 1 := ⟨j - 1, by omega⟩
  obtain ⟨hs1, hs2⟩ := (step_iff m _ _ i (by omega)).1 hs
  have hib : i ≤ h := Nat.le_of_not_lt fun hlt => hh.2.2 i hlt (by omega) hs1
  exact hf.2.2 (i + 1) h1 h2 ((step_iff m _ _ i (by omega)).2 ⟨within hs1 hh.2.1 hib, hs2⟩)

/-- is the mark found with c? -/
def found (m : List UInt8) (h : Nat) (c : UInt8) : Bool := decide (0 < m.length) && decide (fit m h c = m.length)
/-- what is answered -/
def out (m : List UInt8) (h : Nat) (c : UInt8) : List UInt8 := (m.take h ++ [c]).take (h + 1 - fit m h c)
/-- what is held behind it -/
def after (m : List UInt8) (h : Nat) (c : UInt8) : Nat := if found m h c then 0 else fit m h c

theorem found_iff (m x : List UInt8) (c : UInt8) : found m (held m x) c = true ↔ 0 < m.length ∧ m <:+ x ++ [c] := by
  have hf := fit_held m x c
  unfold found
  rw [Bool.and_eq_true, decide_eq_true_eq, decide_eq_true_eq]
  constructor
  · rintro ⟨h1, h2⟩
    rw [h2] at hf
    exact ⟨h1, by simpa using hf.2.1⟩
  · rintro ⟨h1, h2⟩
    refine ⟨h1, ?_⟩
    rcases Nat.lt_or_ge (fit m (held m x) c) m.length with l | l
    · exact absurd (by simpa using h2) (hf.2.2 m.length l (Nat.le_refl _))
    · exact Nat.le_antisymm (fit_le _ _ _) l
theorem held_snoc (m x : List UInt8) (c : UInt8) (h : found m (held m x) c = false) : held m (x ++ [c]) = fit m (held m x) c := by
  have hf := fit_held m x c
  have hl := fit_le m (held m x) c
  refine IsBest.best ⟨?_, hf.2.1, fun k h1 h2 => hf.2.2 k h1 (by omega)⟩
  unfold found at h
  rw [Bool.and_eq_false_iff, decide_eq_false_iff_not, decide_eq_false_iff_not] at h
  omega
theorem after_held (m x : List UInt8) (c : UInt8) : after m (held m x) c = if found m (held m x) c then 0 else held m (x ++ [c]) := by
  unfold after
  cases h : found m (held m x) c
  · rw [held_snoc m x c h]
  · rfl
theorem after_le (m x : List UInt8) (c : UInt8) : after m (held m x) c ≤ m.length - 1 := by
  rw [after_held]
  split
  · omega
  · exact held_le _ _
/-- what is answered is that much of what came -/
theorem out_held (m x : List UInt8) (c : UInt8) : out m (held m x) c = ((x ++ [c]).drop (x.length - held m x)).take (held m x + 1 - fit m (held m x) c) := by
  unfold out
  rw [List.drop_append_of_le_length (by omega), held_drop]
theorem found_fit {m : List UInt8} {h : Nat} {c : UInt8} (hf : found m h c = true) : fit m h c = m.length ∧ 0 < m.length := by
  unfold found at hf
  rw [Bool.and_eq_true, decide_eq_true_eq, decide_eq_true_eq] at hf
  exact ⟨hf.2, hf.1⟩
theorem out_found {m : List UInt8} {h : Nat} {c : UInt8} (hf : found m h c = true) (hh : h ≤ m.length - 1) : out m h c = [] := by
  obtain ⟨h1, h2⟩ := found_fit hf
  have := fit_le' m h c
  unfold out
  rw [show h + 1 - fit m h c = 0 by omega, List.take_zero]
theorem out_none {m : List UInt8} {h : Nat} {c : UInt8} (hf : fit m h c = 0) : out m h c = m.take h ++ [c] := by
  unfold out
  rw [hf]; exact List.take_of_length_le (by simp; omega)
theorem out_some {m : List UInt8} {h : Nat} {c : UInt8} (hf : 0 < fit m h c) (hh : h ≤ m.length) : out m h c = m.take (h + 1 - fit m h c) := by
  unfold out
  rw [List.take_append_of_le_length (by rw [List.length_take]; omega), List.take_take, Nat.min_eq_left (by omega)]

/-- nowhere in x -/
def Free (m x : List UInt8) : Prop := ¬ m <:+: x
theorem free_snoc {m x : List UInt8} {c : UInt8} (h : Free m x) (h2 : ¬ m <:+ x ++ [c]) : Free m (x ++ [c]) := by
  rintro ⟨a, b, hab⟩
  rcases List.eq_nil_or_concat b with rfl | ⟨b', d, rfl⟩
  · exact h2 ⟨a, by simpa using hab⟩
  · rw [List.concat_eq_append, ← List.append_assoc] at hab
    obtain ⟨h1, _⟩ := List.append_inj' hab rfl
    exact h ⟨a, b', h1⟩
theorem free_prefix {m x y : List UInt8} (h : Free m (x ++ y)) : Free m x := by
  rintro ⟨a, b, hab⟩
  exact h ⟨a, b ++ y, by rw [← hab]; simp⟩

/-- what is answered, and what is held behind it, is what was held and c; behind a mark: and the mark -/
theorem out_after (m x : List UInt8) (c : UInt8) (hf : found m (held m x) c = false) : out m (held m x) c ++ m.take (after m (held m x) c) = m.take (held m x) ++ [c] := by
  have hff := fit_is m (held m x) c
  have hl := held_le m x
  have hle := fit_le m (held m x) c
  have hle' := fit_le' m (held m x) c
  unfold after out
  rw [hf, if_neg (by simp)]
  generalize held m x = h at *
  generalize fit m h c = r at *
  obtain ⟨y, hy⟩ := hff.2.1
  have e : h + 1 - r = y.length := by
    have := congrArg List.length hy
    simp at this; omega
  rw [e, ← hy, List.take_left]
theorem out_mark (m x : List UInt8) (c : UInt8) (hf : found m (held m x) c = true) : m.take (held m x) ++ [c] = m ∧ held m x + 1 = m.length := by
  obtain ⟨h1, h2⟩ := found_fit hf
  have hff := fit_is m (held m x) c
  have hl := held_le m x
  have hle' := fit_le' m (held m x) c
  rw [h1] at hff hle'
  have he : held m x + 1 = m.length := by omega
  refine ⟨?_, he⟩
  have := hff.2.1
  rw [List.take_length] at this
  exact (this.eq_of_length (by simp; omega)).symm
end Go.Proofs.YtjhbiipbmlpgoaaDoor.Sk
