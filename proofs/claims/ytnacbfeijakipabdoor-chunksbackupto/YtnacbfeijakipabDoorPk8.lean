/- Small texts, one behind the other: CsNumber, CsNum16, PlainS, RfFind. -/
import Derived.Test.YtnacbfeijakipabDoorPk7
import Derived.Below
import Derived.Test.YtnacbfeijakipabDoorPk4
import Derived.Test.YtnacbfeijakipabDoorPk2
import Derived.Test.YtnacbfeijakipabDoorPk1
import Derived.Test.YtnacbfeijakipabDoorProg
/- Package chars, walked: number. -/
namespace Go.Proofs.YtnacbfeijakipabDoor
open Go.RowKit

set_option maxHeartbeats 400000 in
theorem number_any (s : ByteArray) (base most : Int) (w : World) (hs : s.size ≤ maxLen) (hb0 : 2 ≤ base) (hb1 : base ≤ 16) (hm0 : 0 ≤ most) (hm1 : most ≤ 9) :
    Calls Tryd.prog 83 #[.string s, .int .i64 base, .int .i64 most] w fun e w' => e = .returned (.tuple #[.int .i64 (Ch.number base most s.data.toList).1, .bool (Ch.number base most s.data.toList).2]) ∧ w' = w := by
  unfold maxLen at hs
  by_cases h0 : s.size = 0
  · obtain rfl := Ch.empty_eq s h0
    go_enter Tryd.func83, Tryd.ntmps83
    go_wp2
    go_ret2
    exact ⟨ret_two (Ch.number_short _ _ _ (Or.inl rfl)), rfl⟩
  · have hne := Ch.isEmpty_false s (by omega)
    by_cases hlong : most < s.size
    · have HL : Hid (most < s.data.toList.length) := by unfold Hid; rw [Ch.len_list]; exact hlong
      go_enter Tryd.func83, Tryd.ntmps83
      go_wp2
      go_ret2
      exact ⟨ret_two (Ch.number_short _ _ _ (Or.inr HL.out)), rfl⟩
    · have hlg : decide (most < (s.size : Int)) = false := decide_eq_false hlong
      have HL : Hid (¬ most < s.data.toList.length) := by unfold Hid; rw [Ch.len_list]; exact hlong
      go_enter Tryd.func83, Tryd.ntmps83
      go_wp2
      go_loop [8, 21] (fun n i => ∃ k : Nat, k ≤ s.size ∧ i = .int .i64 k ∧ (s.data.toList.take k).all (Ch.dig base) = true ∧ n = .int .i64 (Ch.numOf base (s.data.toList.take k))) (fun _ i => s.size - (intOf i).toNat)
      case atStart => exact ⟨0, Nat.zero_le _, rfl, rfl, rfl⟩
      case round =>
        obtain ⟨k, hk, rfl, hall, rfl⟩ := hrel
        have HN : Hid ((s.data.toList.take k).all (Ch.dig base) = true) := hall
        have hbd := Ch.numOf_bound base (by omega) hb1 _ hall (by have : (s.data.toList.take k).length ≤ k := List.length_take_le _ _; omega)
        clear hall
        generalize hn : Ch.numOf base (s.data.toList.take k) = n at hbd
        have Hn : Hid (Ch.numOf base (s.data.toList.take k) = n) := hn
        clear hn
        have p0 : 0 ≤ n * base := Int.mul_nonneg hbd.1 (by omega)
        have p1 : n * base ≤ n * 16 := Int.mul_le_mul_of_nonneg_left hb1 hbd.1
        by_cases hlt : k < s.size
        · have hb := s[k].toNat_lt
          have hx := Ch.hex_byte s[k]
          by_cases hd : 0 ≤ Ch.hex s[k].toNat ∧ Ch.hex s[k].toNat < base
          · have HE : Hid (Ch.dig base s[k] = true) := by unfold Hid Ch.dig; rw [decide_eq_true hd.1, decide_eq_true hd.2]; rfl
            have hd1 : decide (Ch.hex s[k].toNat < 0) = false := decide_eq_false (by omega)
            have hd2 : decide (base ≤ Ch.hex s[k].toNat) = false := decide_eq_false (by omega)
            go_wp2_with (go_at_call 94; refine (hex_any _ _ (by omega) (by omega)).mono ?_; rintro e w' ⟨rfl, rfl⟩)
            go_round
            case rel => exact ⟨k + 1, by omega, by go_num, by rw [Ch.take_snoc s k hlt, Ch.all_snoc, HN.out, HE.out]; rfl, by rw [Ch.take_snoc s k hlt, Ch.numOf_snoc, Hn.out]⟩
            case measure => simp [intOf]; omega
          · have HE : Hid (Ch.dig base s[k] = false) := by
              unfold Hid Ch.dig
              by_cases hz : 0 ≤ Ch.hex s[k].toNat
              · rw [decide_eq_false (show ¬ Ch.hex s[k].toNat < base from fun h => hd ⟨hz, h⟩)]; simp
              · rw [decide_eq_false hz]; rfl
            by_cases hz : 0 ≤ Ch.hex s[k].toNat
            all_goals
              go_wp2_with (go_at_call 94; refine (hex_any _ _ (by omega) (by omega)).mono ?_; rintro e w' ⟨rfl, rfl⟩)
              all_goals first | omega | (go_ret2; exact ⟨ret_two (Ch.number_no _ _ _ (Ch.all_of_take _ s k hlt HE.out)), rfl⟩)
        · go_wp2
          go_ret2
          exact ⟨ret_two (by rw [← Hn.out, Ch.take_all s k (by omega)]; exact Ch.number_yes _ _ _ (Ch.ne_nil s (by omega)) (Int.not_lt.2 HL.out) (by rw [← HN.out, Ch.take_all s k (by omega)])), rfl⟩
end Go.Proofs.YtnacbfeijakipabDoor

/- Package chars, walked: HexNumber. -/
namespace Go.Proofs.YtnacbfeijakipabDoor
open Go.RowKit

set_option maxHeartbeats 400000 in
theorem number16_any (s : ByteArray) (w : World) (hs : s.size ≤ maxLen) :
    Calls Tryd.prog 70 #[.string s] w fun e w' => e = .returned (.tuple #[.int .i64 (Ch.number 16 6 s.data.toList).1, .bool (Ch.number 16 6 s.data.toList).2]) ∧ w' = w := by
  have h := number_any s 16 6 w hs (by decide) (by decide) (by decide) (by decide)
  generalize Ch.number 16 6 s.data.toList = p at h
  go_enter Tryd.func70, Tryd.ntmps70
  go_wp2_with (go_at_call 83; refine h.mono ?_; rintro e w' ⟨rfl, rfl⟩)
  go_ret2
  exact ⟨rfl, rfl⟩
end Go.Proofs.YtnacbfeijakipabDoor

/- Plain laws of a mark in a stream, with no program in them: the longest end of what came that begins the mark, and how one more byte turns it. -/
namespace Go.Proofs.YtnacbfeijakipabDoor.Sk

/-- the longest beginning of m, of at most b bytes, that ends x -/
def best (m x : List UInt8) : Nat → Nat
  | 0 => 0
  | k + 1 => if m.take (k + 1) <:+ x then k + 1 else best m x k
/-- r is that -/
def IsBest (m x : List UInt8) (b r : Nat) : Prop := r ≤ b ∧ m.take r <:+ x ∧ ∀ k, r < k → k ≤ b → ¬ m.take k <:+ x

theorem best_is (m x : List UInt8) : ∀ b, IsBest m x b (best m x b) := by
  intro b
  induction b with
  | zero => exact ⟨Nat.le_refl _, by simp [best], fun k h1 h2 => by simp [best] at h1; omega⟩
  | succ b ih =>
    unfold best
    by_cases h : m.take (b + 1) <:+ x
    · rw [if_pos h]; exact ⟨Nat.le_refl _, h, fun k h1 h2 => by omega⟩
    · rw [if_neg h]
      refine ⟨by have := ih.1; omega, ih.2.1, fun k h1 h2 => ?_⟩
      by_cases e : k = b + 1
      · subst e; exact h
      · exact ih.2.2 k h1 (by omega)
theorem IsBest.eq {m x : List UInt8} {b r r' : Nat} (h : IsBest m x b r) (h' : IsBest m x b r') : r = r' := by
  rcases Nat.lt_trichotomy r r' with l | l | l
  · exact absurd h'.2.1 (h.2.2 r' l h'.1)
  · exact l
  · exact absurd h.2.1 (h'.2.2 r l h.1)
theorem IsBest.best {m x : List UInt8} {b r : Nat} (h : IsBest m x b r) : best m x b = r := (best_is m x b).eq h
theorem best_le (m x : List UInt8) (b : Nat) : best m x b ≤ b := (best_is m x b).1

theorem take_snoc (m : List UInt8) (j : Nat) (h : j < m.length) : m.take (j + 1) = m.take j ++ [m[j]] := List.take_succ_eq_append_getElem h
theorem snoc_suffix (t x : List UInt8) (a c : UInt8) : t ++ [a] <:+ x ++ [c] ↔ t <:+ x ∧ a = c := by
  constructor
  · rintro ⟨y, hy⟩
    rw [← List.append_assoc] at hy
    obtain ⟨h1, h2⟩ := List.append_inj' hy rfl
    exact ⟨⟨y, h1⟩, by simpa using h2⟩
  · rintro ⟨⟨y, hy⟩, rfl⟩
    exact ⟨y, by rw [← List.append_assoc, hy]⟩
/-- one byte more: an end begins the mark if what was ahead of it did -/
theorem step_iff (m x : List UInt8) (c : UInt8) (j : Nat) (h : j < m.length) : m.take (j + 1) <:+ x ++ [c] ↔ m.take j <:+ x ∧ m[j] = c := by
  rw [take_snoc m j h, snoc_suffix]
theorem within {m x : List UInt8} {j k : Nat} (hj : m.take j <:+ x) (hk : m.take k <:+ x) (h : j ≤ k) : m.take j <:+ m.take k :=
  List.suffix_of_suffix_length_le hj hk (by rw [List.length_take, List.length_take]; omega)

/-- what the going back keeps: k bytes of the mark end its first n, and none that is longer, and at most n, goes on with c -/
def Back (m : List UInt8) (n : Nat) (c : UInt8) (k : Nat) : Prop :=
  k ≤ n ∧ m.take k <:+ m.take n ∧ ∀ j, k < j → j ≤ n → (hj : j < m.length) → m.take j <:+ m.take n → m[j] ≠ c
theorem back_start (m : List UInt8) (n : Nat) (c : UInt8) : Back m n c n := ⟨Nat.le_refl _, List.suffix_refl _, fun j h1 h2 => by omega⟩
theorem back_step {m : List UInt8} {n k : Nat} {c : UInt8} (h : Back m n c k) (hk : k < m.length) (h0 : 0 < k) (hc : m[k] ≠ c) : Back m n c (best m (m.take k) (k - 1)) := by
  have hb := best_is m (m.take k) (k - 1)
  generalize best m (m.take k) (k - 1) = r at hb
  refine ⟨by have := hb.1; have := h.1; omega, hb.2.1.trans h.2.1, fun j h1 h2 hj hs => ?_⟩
  by_cases e : j = k
  · subst e; exact hc
  · by_cases g : k < j
    · exact h.2.2 j g h2 hj hs
    · exact absurd (within hs h.2.1 (by omega)) (hb.2.2 j h1 (by omega))
theorem back_yes {m : List UInt8} {n k : Nat} {c : UInt8} (h : Back m n c k) (hn : n < m.length) (hk : k < m.length) (hc : m[k] = c) : IsBest m (m.take n ++ [c]) m.length (k + 1) := by
  refine ⟨by omega, (step_iff m _ c k hk).2 ⟨h.2.1, hc⟩, fun j h1 h2 hs => ?_⟩
  obtain ⟨i, rfl⟩ : ∃ i, j = i + 1 := ⟨j - 1, by omega⟩
  obtain ⟨hs1, hs2⟩ := (step_iff m _ c i (by omega)).1 hs
  have hin : i ≤ n := by
    have := hs1.length_le
    rw [List.length_take, List.length_take] at this; omega
  exact h.2.2 i (by omega) hin (by omega) hs1 hs2
theorem back_no {m : List UInt8} {n : Nat} {c : UInt8} (h : Back m n c 0) (hn : n < m.length) (hm : 0 < m.length) (hc : m[0] ≠ c) : IsBest m (m.take n ++ [c]) m.length 0 := by
  refine ⟨by omega, by simp, fun j h1 h2 hs => ?_⟩
  obtain ⟨i, rfl⟩ : ∃ i, j = i + 1 := ⟨j - 1, by omega⟩
  obtain ⟨hs1, hs2⟩ := (step_iff m _ c i (by omega)).1 hs
  have hin : i ≤ n := by
    have := hs1.length_le
    rw [List.length_take, List.length_take] at this; omega
  by_cases e : i = 0
  · subst e; exact hc hs2
  · exact h.2.2 i (by omega) hin (by omega) hs1 hs2
theorem none_is (x : List UInt8) : IsBest [] x 0 0 := ⟨Nat.le_refl _, by simp, fun k h1 h2 => by omega⟩

/-- how much of the mark there is with c behind its first n bytes -/
def fit (m : List UInt8) (n : Nat) (c : UInt8) : Nat := best m (m.take n ++ [c]) m.length
theorem fit_is (m : List UInt8) (n : Nat) (c : UInt8) : IsBest m (m.take n ++ [c]) m.length (fit m n c) := best_is _ _ _
theorem fit_le (m : List UInt8) (n : Nat) (c : UInt8) : fit m n c ≤ m.length := best_le _ _ _
theorem fit_le' (m : List UInt8) (n : Nat) (c : UInt8) : fit m n c ≤ n + 1 := by
  have h := (fit_is m n c).2.1.length_le
  have h2 := fit_le m n c
  simp at h; omega
/-- how many of the mark's first n bytes, but not all n, end them and begin the mark -/
def bk (m : List UInt8) (n : Nat) : Nat := best m (m.take n) (n - 1)
theorem bk_lt (m : List UInt8) (n : Nat) (h : 0 < n) : bk m n < n := by have := best_le m (m.take n) (n - 1); unfold bk; omega
theorem bk_le (m : List UInt8) (n : Nat) : bk m n ≤ n - 1 := best_le m (m.take n) (n - 1)
theorem bk_zero (m : List UInt8) : bk m 0 = 0 := rfl
theorem bk_one (m : List UInt8) : bk m 1 = 0 := rfl
theorem bk_next (m : List UInt8) (n : Nat) (h0 : 0 < n) (h : n < m.length) : bk m (n + 1) = fit m (bk m n) m[n] := by
  have hb : IsBest m (m.take n) (n - 1) (bk m n) := best_is _ _ _
  have hf := fit_is m (bk m n) m[n]
  have hle := fit_le' m (bk m n) m[n]
  have hlt := bk_lt m n h0
  generalize bk m n = b at *
  generalize fit m b m[n] = r at *
  show best m (m.take (n + 1)) n = r
  refine IsBest.best ⟨by omega, ?_, fun j h1 h2 hs => ?_⟩
  · rw [take_snoc m n h]
    refine hf.2.1.trans ((snoc_suffix _ _ _ _).2 ⟨hb.2.1, rfl⟩)
  · obtain ⟨i, rfl⟩ : ∃ i, j = i + 1 := ⟨j - 1, by omega⟩
    rw [take_snoc m n h] at hs
    obtain ⟨hs1, hs2⟩ := (step_iff m _ _ i (by omega)).1 hs
    have hib : i ≤ b := by
      refine Nat.le_of_not_lt fun hlt => hb.2.2 i hlt (by omega) hs1
    exact hf.2.2 (i + 1) h1 (by omega) ((step_iff m _ _ i (by omega)).2 ⟨within hs1 hb.2.1 hib, hs2⟩)

/-- what is held of what came -/
def held (m x : List UInt8) : Nat := best m x (m.length - 1)
theorem held_is (m x : List UInt8) : IsBest m x (m.length - 1) (held m x) := best_is _ _ _
theorem held_le (m x : List UInt8) : held m x ≤ m.length - 1 := best_le _ _ _
theorem held_nil (m : List UInt8) : held m [] = 0 := by
  have h := (held_is m []).2.1.length_le
  have h2 := held_le m []
  rw [List.length_take] at h; simp at h
  rcases h with h | h
  · exact h
  · subst h; simpa using h2
theorem held_le_len (m x : List UInt8) : held m x ≤ x.length := by
  have h := (held_is m x).2.1.length_le
  have := held_le m x
  rw [List.length_take] at h; omega
theorem held_drop (m x : List UInt8) : x.drop (x.length - held m x) = m.take (held m x) := by
  have h := (held_is m x).2.1
  have hl := held_le m x
  obtain ⟨y, hy⟩ := h
  have e : x.length = y.length + held m x := by
    have := congrArg List.length hy
    rw [List.length_append, List.length_take] at this; omega
  rw [e, Nat.add_sub_cancel]
  conv => lhs; rw [← hy]
  exact List.drop_left
/-- with one byte more just what is held matters -/
theorem fit_held (m x : List UInt8) (c : UInt8) : IsBest m (x ++ [c]) m.length (fit m (held m x) c) := by
  have hh := held_is m x
  have hf := fit_is m (held m x) c
  generalize held m x = h at *
  generalize fit m h c = r at *
  refine ⟨hf.1, hf.2.1.trans ((snoc_suffix _ _ _ _).2 ⟨hh.2.1, rfl⟩), fun j h1 h2 hs => ?_⟩
  obtain ⟨i, rfl⟩ : ∃ i, j = i + 1 := ⟨j - 1, by omega⟩
  obtain ⟨hs1, hs2⟩ := (step_iff m _ _ i (by omega)).1 hs
  have hib : i ≤ h := Nat.le_of_not_lt fun hlt => hh.2.2 i hlt (by omega) hs1
  exact hf.2.2 (i + 1) h1 h2 ((step_iff m _ _ i (by omega)).2 ⟨within hs1 hh.2.1 hib, hs2⟩)

/-- is the mark found with c? -/
def found (m : List UInt8) (h : Nat) (c : UInt8) : Bool := decide (0 < m.length) && decide (fit m h c = m.length)
/-- what is answered -/
def out (m : List UInt8) (h : Nat) (c : UInt8) : List UInt8 := (m.take h ++ [c]).take (h + 1 - fit m h c)
/-- what is held behind it -/
def after (m : List UInt8) (h : Nat) (c : UInt8) : Nat := if found m h c then 0 else fit m h c

theorem found_iff (m x : List UInt8) (c : UInt8) : found m (held m x) c = true ↔ 0 < m.length ∧ m <:+ x ++ [c] := by
  have hf := fit_held m x c
  unfold found
  rw [Bool.and_eq_true, decide_eq_true_eq, decide_eq_true_eq]
  constructor
  · rintro ⟨h1, h2⟩
    rw [h2] at hf
    exact ⟨h1, by simpa using hf.2.1⟩
  · rintro ⟨h1, h2⟩
    refine ⟨h1, ?_⟩
    rcases Nat.lt_or_ge (fit m (held m x) c) m.length with l | l
    · exact absurd (by simpa using h2) (hf.2.2 m.length l (Nat.le_refl _))
    · exact Nat.le_antisymm (fit_le _ _ _) l
theorem held_snoc (m x : List UInt8) (c : UInt8) (h : found m (held m x) c = false) : held m (x ++ [c]) = fit m (held m x) c := by
  have hf := fit_held m x c
  have hl := fit_le m (held m x) c
  refine IsBest.best ⟨?_, hf.2.1, fun k h1 h2 => hf.2.2 k h1 (by omega)⟩
  unfold found at h
  rw [Bool.and_eq_false_iff, decide_eq_false_iff_not, decide_eq_false_iff_not] at h
  omega
theorem after_held (m x : List UInt8) (c : UInt8) : after m (held m x) c = if found m (held m x) c then 0 else held m (x ++ [c]) := by
  unfold after
  cases h : found m (held m x) c
  · rw [held_snoc m x c h]
  · rfl
theorem after_le (m x : List UInt8) (c : UInt8) : after m (held m x) c ≤ m.length - 1 := by
  rw [after_held]
  split
  · omega
  · exact held_le _ _
/-- what is answered is that much of what came -/
theorem out_held (m x : List UInt8) (c : UInt8) : out m (held m x) c = ((x ++ [c]).drop (x.length - held m x)).take (held m x + 1 - fit m (held m x) c) := by
  unfold out
  rw [List.drop_append_of_le_length (by omega), held_drop]
theorem found_fit {m : List UInt8} {h : Nat} {c : UInt8} (hf : found m h c = true) : fit m h c = m.length ∧ 0 < m.length := by
  unfold found at hf
  rw [Bool.and_eq_true, decide_eq_true_eq, decide_eq_true_eq] at hf
  exact ⟨hf.2, hf.1⟩
theorem out_found {m : List UInt8} {h : Nat} {c : UInt8} (hf : found m h c = true) (hh : h ≤ m.length - 1) : out m h c = [] := by
  obtain ⟨h1, h2⟩ := found_fit hf
  have := fit_le' m h c
  unfold out
  rw [show h + 1 - fit m h c = 0 by omega, List.take_zero]
theorem out_none {m : List UInt8} {h : Nat} {c : UInt8} (hf : fit m h c = 0) : out m h c = m.take h ++ [c] := by
  unfold out
  rw [hf]; exact List.take_of_length_le (by simp; omega)
theorem out_some {m : List UInt8} {h : Nat} {c : UInt8} (hf : 0 < fit m h c) (hh : h ≤ m.length) : out m h c = m.take (h + 1 - fit m h c) := by
  unfold out
  rw [List.take_append_of_le_length (by rw [List.length_take]; omega), List.take_take, Nat.min_eq_left (by omega)]

/-- nowhere in x -/
def Free (m x : List UInt8) : Prop := ¬ m <:+: x
theorem free_snoc {m x : List UInt8} {c : UInt8} (h : Free m x) (h2 : ¬ m <:+ x ++ [c]) : Free m (x ++ [c]) := by
  rintro ⟨a, b, hab⟩
  rcases List.eq_nil_or_concat b with rfl | ⟨b', d, rfl⟩
  · exact h2 ⟨a, by simpa using hab⟩
  · rw [List.concat_eq_append, ← List.append_assoc] at hab
    obtain ⟨h1, _⟩ := List.append_inj' hab rfl
    exact h ⟨a, b', h1⟩
theorem free_prefix {m x y : List UInt8} (h : Free m (x ++ y)) : Free m x := by
  rintro ⟨a, b, hab⟩
  exact h ⟨a, b ++ y, by rw [← hab]; simp⟩

/-- what is answered, and what is held behind it, is what was held and c; behind a mark: and the mark -/
theorem out_after (m x : List UInt8) (c : UInt8) (hf : found m (held m x) c = false) : out m (held m x) c ++ m.take (after m (held m x) c) = m.take (held m x) ++ [c] := by
  have hff := fit_is m (held m x) c
  have hl := held_le m x
  have hle := fit_le m (held m x) c
  have hle' := fit_le' m (held m x) c
  unfold after out
  rw [hf, if_neg (by simp)]
  generalize held m x = h at *
  generalize fit m h c = r at *
  obtain ⟨y, hy⟩ := hff.2.1
  have e : h + 1 - r = y.length := by
    have := congrArg List.length hy
    simp at this; omega
  rw [e, ← hy, List.take_left]
theorem out_mark (m x : List UInt8) (c : UInt8) (hf : found m (held m x) c = true) : m.take (held m x) ++ [c] = m ∧ held m x + 1 = m.length := by
  obtain ⟨h1, h2⟩ := found_fit hf
  have hff := fit_is m (held m x) c
  have hl := held_le m x
  have hle' := fit_le' m (held m x) c
  rw [h1] at hff hle'
  have he : held m x + 1 = m.length := by omega
  refine ⟨?_, he⟩
  have := hff.2.1
  rw [List.take_length] at this
  exact (this.eq_of_length (by simp; omega)).symm
end Go.Proofs.YtnacbfeijakipabDoor.Sk

/- The document's own answer, walked: FindFirst. -/
namespace Go.Proofs.YtnacbfeijakipabDoor
open Go.RowKit

/-- the mark stands at i -/
def StandsAt (m x : List UInt8) (i : Nat) : Prop := i + m.length ≤ x.length ∧ (x.drop i).take m.length = m

/-- r is where it stands first, or -1 -/
def FindIs (m x : List UInt8) (r : Int) : Prop := (r = -1 ∧ ∀ j, ¬ StandsAt m x j) ∨ ∃ k : Nat, r = k ∧ StandsAt m x k ∧ ∀ j, j < k → ¬ StandsAt m x j

theorem FindIs.free {m x : List UInt8} {r : Int} (h : FindIs m x r) (hf : Sk.Free m x) : r = -1 := by
  rcases h with ⟨h, _⟩ | ⟨k, _, ⟨h1, h2⟩, _⟩
  · exact h
  · refine absurd ?_ hf
    refine ⟨x.take k, x.drop (k + m.length), ?_⟩
    rw [← h2]
    have : (x.drop k).drop m.length = x.drop (k + m.length) := by rw [List.drop_drop]
    rw [List.length_take, List.length_drop, Nat.min_eq_left (by omega), ← this, List.append_assoc, List.take_append_drop, List.take_append_drop]

theorem find_none (w : World) (ao : Option Addr) (cap : Nat) (x : List UInt8) (s : ByteArray) (hx : IsB w ao cap x) (hs : s.size = 0) :
    Calls Tryd.prog 29 #[.slice ao x.length cap, .string s] w fun e w' => e = .returned (.int .i64 0) ∧ w' = w := by
  have hs' : (s.size : Int) = 0 := by omega
  have hcap := hx.1
  have he : s.toList = [] := by
    rw [Lib.toList_data]
    exact List.eq_nil_of_length_eq_zero (by rw [Array.length_toList]; exact hs)
  have hq := (hx.first 0 (Nat.zero_le _)).str (P := Tryd.prog) 36 9 5 Tryd.underlying36 Tryd.underlying5 Tryd.underlying9
  simp only [List.take_zero, List.length_nil] at hq
  clear hx
  go_enter Tryd.func29, Tryd.ntmps29
  go_wp2
  go_loop [5] (fun t => t = .int .i64 0) (fun _ => 0)
  case atStart => rfl
  case round =>
    subst hrel
    go_wp2
    go_ret
    exact ⟨rfl, rfl⟩

set_option maxHeartbeats 800000 in
theorem find_some (w : World) (ao : Option Addr) (cap : Nat) (x : List UInt8) (s : ByteArray) (hx : IsB w ao cap x) (hL : s.size ≤ 1000000) (hs : 0 < s.size) (hX : x.length ≤ 1000000) :
    Calls Tryd.prog 29 #[.slice ao x.length cap, .string s] w fun e w' => ∃ r, e = .returned (.int .i64 r) ∧ FindIs s.data.toList x r ∧ w' = w := by
  have hcap := hx.1
  have H := Hid.mk' hx
  have HL : Hid (s.data.toList.length = s.size) := by unfold Hid; rw [Array.length_toList]; rfl
  clear hx
  go_enter Tryd.func29, Tryd.ntmps29
  go_wp2
  go_loop [5] (fun t => ∃ k : Nat, k ≤ x.length ∧ t = .int .i64 k ∧ ∀ j, j < k → ¬ StandsAt s.data.toList x j) (fun t => x.length + 1 - (intOf t).toNat)
  case atStart => exact ⟨0, Nat.zero_le _, rfl, fun j h => by omega⟩
  case round =>
    obtain ⟨k, hk, rfl, hno⟩ := hrel
    have HN := Hid.mk' hno
    clear hno
    by_cases hlt : k + s.size ≤ x.length
    · obtain ⟨a, rfl⟩ := H.out.some (by omega)
      have e1 : (k : Int) + s.size ≤ x.length := by omega
      have e2 : (k : Int) + s.size ≤ cap := by omega
      have e3 : ((k : Int) + s.size).toNat = k + s.size := by omega
      have e4 : ¬ cap = k := by omega
      have e5 : k + s.size - k = s.size := by omega
      have hq : (convert 36 9 (.slice (some (a.add k)) s.size (cap - k))).run Tryd.prog w = .ok (.string ⟨((x.drop k).take s.size).toArray⟩) w := by
        have h := H.out.cut (ao' := some (a.add k)) k (k + s.size) (by omega) hlt (fun _ => rfl)
        rw [e5] at h
        have h' := h.str (P := Tryd.prog) 36 9 5 Tryd.underlying36 Tryd.underlying5 Tryd.underlying9
        rw [List.length_take, List.length_drop, Nat.min_eq_left (by omega)] at h'
        exact h'
      by_cases hy : (x.drop k).take s.size = s.data.toList
      · have HY : Hid (StandsAt s.data.toList x k) := ⟨by rw [HL.out]; exact hlt, by rw [HL.out]; exact hy⟩
        have hy' : ((x.drop k).take s.size == s.toList) = true := by rw [Lib.toList_data, hy]; exact beq_self_eq_true _
        clear hy
        go_wp2
        go_ret
        exact ⟨k, rfl, Or.inr ⟨k, rfl, HY.out, HN.out⟩, rfl⟩
      · have HY : Hid (¬ StandsAt s.data.toList x k) := fun h => hy (by have := h.2; rwa [HL.out] at this)
        have hy' : ((x.drop k).take s.size == s.toList) = false := by rw [Lib.toList_data, beq_eq_false_iff_ne]; exact hy
        clear hy
        go_wp2
        go_round
        case rel =>
          refine ⟨k + 1, by omega, by go_num, fun j hj => ?_⟩
          by_cases e : j = k
          · subst e; exact HY.out
          · exact HN.out j (by omega)
        case measure => simp [intOf]; omega
    · have ht : decide ((k : Int) + s.size ≤ x.length) = false := by rw [decide_eq_false_iff_not]; omega
      go_wp2
      go_ret
      refine ⟨-1, rfl, Or.inl ⟨rfl, fun j hj => ?_⟩, rfl⟩
      by_cases e : j < k
      · exact HN.out j e hj
      · have := hj.1
        rw [HL.out] at this; omega

theorem find_any (w : World) (ao : Option Addr) (cap n : Nat) (x : List UInt8) (s : ByteArray) (hx : IsB w ao cap x) (hn : x.length = n) (hL : s.size ≤ 1000000) (hX : n ≤ 1000000) :
    Calls Tryd.prog 29 #[.slice ao n cap, .string s] w fun e w' => ∃ r, e = .returned (.int .i64 r) ∧ FindIs s.data.toList x r ∧ w' = w := by
  subst hn
  by_cases h : s.size = 0
  · refine (find_none w ao cap x s hx h).mono ?_
    rintro e w' ⟨rfl, hw⟩
    have e : s.data.toList = [] := by
      exact List.eq_nil_of_length_eq_zero (by rw [Array.length_toList]; exact h)
    exact ⟨0, rfl, Or.inr ⟨0, rfl, ⟨by rw [e]; simp, by rw [e]; rfl⟩, fun j hj => by omega⟩, hw⟩
  · exact find_some w ao cap x s hx hL (by omega) hX

/-- a mark of one byte -/
theorem find_one {c : UInt8} {l : List UInt8} {r : Int} (h : FindIs [c] l r) : (r = -1 ∧ Fd.at_ c l = l.length) ∨ (r = (Fd.at_ c l : Int) ∧ Fd.at_ c l < l.length) := by
  have key : ∀ j (hj : j < l.length), StandsAt [c] l j ↔ l[j] = c := fun j hj => by
    unfold StandsAt
    rw [List.drop_eq_getElem_cons hj]
    constructor
    · rintro ⟨_, h⟩
      exact (List.cons.inj (show l[j] :: List.take 0 _ = c :: [] from h)).1
    · intro e
      exact ⟨by simp; omega, by rw [e]; rfl⟩
  rcases h with ⟨h1, h2⟩ | ⟨k, h1, h2, h3⟩
  · exact Or.inl ⟨h1, Fd.at_none (fun j hj e => h2 j ((key j hj).2 e))⟩
  · have hk : k < l.length := by have := h2.1; simp at this; omega
    have e := Fd.at_is hk ((key k hk).1 h2) (fun j hj e => h3 j hj ((key j (by omega)).2 e))
    exact Or.inr ⟨by rw [e]; exact h1, by omega⟩

end Go.Proofs.YtnacbfeijakipabDoor
