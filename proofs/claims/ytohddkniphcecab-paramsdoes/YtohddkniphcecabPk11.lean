/- Small texts, one behind the other: PlainF, PlainMT, CsAllT, CsIsTok. -/
import Derived.Test.YtohddkniphcecabPk1
import Derived.Test.YtohddkniphcecabPk4
/- Plain laws of a head's fields, with no program in them: a field out of a line, a line out of a field, as the document's own answer has them. -/
namespace Go.Proofs.Ytohddkniphcecab.Fd

/-- where a byte stands first; the length: nowhere -/
def at_ (c : UInt8) (l : List UInt8) : Nat := l.findIdx (· == c)
theorem at_le (c : UInt8) (l : List UInt8) : at_ c l ≤ l.length := List.findIdx_le_length
theorem at_here {c : UInt8} {l : List UInt8} (h : at_ c l < l.length) : l[at_ c l] = c := by
  have := List.findIdx_getElem (w := h)
  exact beq_iff_eq.1 this
theorem at_first {c : UInt8} {l : List UInt8} {j : Nat} (h : j < at_ c l) (hj : j < l.length) : l[j] ≠ c := by
  have := List.not_of_lt_findIdx h
  intro e
  exact absurd (beq_iff_eq.2 e) (by simpa using this)
theorem at_none {c : UInt8} {l : List UInt8} (h : ∀ j (hj : j < l.length), l[j] ≠ c) : at_ c l = l.length := by
  rcases Nat.lt_or_ge (at_ c l) l.length with g | g
  · exact absurd (at_here g) (h _ g)
  · exact Nat.le_antisymm (at_le c l) g
theorem at_is {c : UInt8} {l : List UInt8} {k : Nat} (hk : k < l.length) (h : l[k] = c) (hf : ∀ j (hj : j < k), l[j] ≠ c) : at_ c l = k := by
  rcases Nat.lt_trichotomy (at_ c l) k with g | g | g
  · exact absurd (at_here (Nat.lt_trans g hk)) (hf _ g)
  · exact g
  · exact absurd h (at_first g hk)

/-- a field, and a code -/
structure Told where
  name : List UInt8
  value : List UInt8
  code : Nat
def bad (c : Nat) : Told := ⟨[], [], c⟩
/-- a field out of a line -/
def of (l : List UInt8) : Told :=
  if at_ 58 l = l.length then bad 5
  else if Ch.isToken (l.take (at_ 58 l)) = false then bad 6
  else if 40 < at_ 58 l then bad 4
  else if Ch.isVisible (l.drop (at_ 58 l + 1)) = false then bad 3
  else ⟨l.take (at_ 58 l), Lib.trimS (l.drop (at_ 58 l + 1)) Ch.ws, 0⟩
/-- a line out of a field: its text, and a code -/
def text (n v : List UInt8) : List UInt8 × Nat :=
  if Ch.isToken n = false then ([], 6)
  else if 40 < n.length ∨ 200 < n.length + 2 + v.length then ([], 4)
  else if Ch.isVisible v = false ∨ Lib.trimS v Ch.ws ≠ v then ([], 3)
  else (n ++ [58, 32] ++ v, 0)
end Go.Proofs.Ytohddkniphcecab.Fd

/- Plain laws of values with parameters, with no program in them: the text of a value. -/
namespace Go.Proofs.Ytohddkniphcecab.Pm

/-- is it a value's word? -/
def wordOk (wd : List UInt8) : Bool :=
  decide (Ch.lower wd = wd) && (if Fd.at_ 47 wd = wd.length then Ch.isToken wd else Ch.isToken (wd.take (Fd.at_ 47 wd)) && Ch.isToken (wd.drop (Fd.at_ 47 wd + 1)))
/-- a byte between quotes -/
def escB (c : UInt8) : List UInt8 := if c = 34 ∨ c = 92 then [92, c] else [c]
def esc (v : List UInt8) : List UInt8 := v.flatMap escB
theorem esc_snoc (v : List UInt8) (c : UInt8) : esc (v ++ [c]) = esc v ++ escB c := by simp [esc]
theorem esc_length (v : List UInt8) : (esc v).length ≤ 2 * v.length := by
  induction v with
  | nil => simp [esc]
  | cons c t ih =>
    have : esc (c :: t) = escB c ++ esc t := by simp [esc]
    rw [this, List.length_append, List.length_cons]
    have : (escB c).length ≤ 2 := by unfold escB; split <;> simp
    omega
/-- a parameter's text -/
def one (p : Par) : List UInt8 := [59, 32] ++ p.1 ++ [61] ++ (if Ch.isToken p.2 then p.2 else [34] ++ esc p.2 ++ [34])
theorem one_length (p : Par) : (one p).length ≤ 5 + p.1.length + 2 * p.2.length := by
  unfold one
  have := esc_length p.2
  split <;> simp <;> omega
/-- the texts of parameters behind what stands there -/
def txt (acc : List UInt8) (seen : List Par) : List Par → Nat ⊕ List UInt8
  | [] => .inr acc
  | p :: t => if Ch.isToken p.1 = false ∨ Ch.lower p.1 ≠ p.1 then .inl 6 else if (seen.any fun q => q.1 == p.1) = true then .inl 9 else if Ch.isVisible p.2 = false then .inl 3 else txt (acc ++ one p) (seen ++ [p]) t
/-- the text of a value -/
def text (wd : List UInt8) (ps : List Par) : Nat ⊕ List UInt8 :=
  if wordOk wd = false then .inl 5 else if 8 < ps.length then .inl 8 else txt wd [] ps
theorem txt_at (acc : List UInt8) (l : List Par) (k : Nat) (hk : k < l.length) : txt acc (l.take k) (l.drop k) =
    if Ch.isToken l[k].1 = false ∨ Ch.lower l[k].1 ≠ l[k].1 then .inl 6 else if ((l.take k).any fun q => q.1 == l[k].1) = true then .inl 9 else if Ch.isVisible l[k].2 = false then .inl 3 else txt (acc ++ one l[k]) (l.take (k + 1)) (l.drop (k + 1)) := by
  rw [List.drop_eq_getElem_cons hk, txt, ← List.take_succ_eq_append_getElem hk]
theorem txt_end (acc : List UInt8) (l : List Par) : txt acc (l.take l.length) (l.drop l.length) = .inr acc := by
  rw [List.drop_length]; rfl
end Go.Proofs.Ytohddkniphcecab.Pm

/- Package chars, walked: all, of Token. -/
namespace Go.Proofs.Ytohddkniphcecab
open Go.RowKit

set_option maxHeartbeats 400000 in
theorem all_token (s : ByteArray) (w : World) (hs : s.size ≤ maxLen) :
    Calls Try.prog 30 #[.string s, .func (.func 54) #[] #[]] w fun e w' => e = .returned (.bool (Ch.allToken s.data.toList)) ∧ w' = w := by
  unfold maxLen at hs
  go_enter Try.func30, Try.ntmps30
  go_wp2
  go_loop [8] (fun i => ∃ k : Nat, k ≤ s.size ∧ i = .int .i64 k ∧ ((s.data.toList.take k).all fun b => Ch.token b.toNat) = true) (fun i => s.size - (intOf i).toNat)
  case atStart => exact ⟨0, Nat.zero_le _, rfl, rfl⟩
  case round =>
    obtain ⟨k, hk, rfl, hno⟩ := hrel
    have HN : Hid (((s.data.toList.take k).all fun b => Ch.token b.toNat) = true) := hno
    clear hno
    by_cases hlt : k < s.size
    · cases he : Ch.token (s[k].toNat : Int)
      · have HE : Hid (Ch.token (s[k].toNat : Int) = false) := he
        go_wp2_with (go_at_call 54; refine (token_any _ _).mono ?_; rintro e w' ⟨rfl, rfl⟩)
        go_ret
        refine ⟨ret_bool ?_, rfl⟩
        exact (Ch.all_of_take (fun b => Ch.token b.toNat) s k hlt HE.out).symm
      · have HE : Hid (Ch.token (s[k].toNat : Int) = true) := he
        go_wp2_with (go_at_call 54; refine (token_any _ _).mono ?_; rintro e w' ⟨rfl, rfl⟩)
        go_round
        case rel => exact ⟨k + 1, by omega, by go_num, by rw [Ch.take_snoc s k hlt, Ch.all_snoc, HN.out, HE.out]; rfl⟩
        case measure => simp [intOf]; omega
    · go_wp2
      go_ret
      refine ⟨ret_bool ?_, rfl⟩
      rw [← HN.out, Ch.take_all s k (by omega)]
      rfl
end Go.Proofs.Ytohddkniphcecab

/- Package chars, walked: IsToken. -/
namespace Go.Proofs.Ytohddkniphcecab
open Go.RowKit

set_option maxHeartbeats 400000 in
theorem isToken_any (s : ByteArray) (w : World) (hs : s.size ≤ maxLen) :
    Calls Try.prog 42 #[.string s] w fun e w' => e = .returned (.bool (Ch.isToken s.data.toList)) ∧ w' = w := by
  by_cases h0 : s.size = 0
  · obtain rfl := Ch.empty_eq s h0
    go_enter Try.func42, Try.ntmps42
    go_wp2
    go_ret
    exact ⟨rfl, rfl⟩
  · have hne := Ch.isEmpty_false s (by omega)
    have HT : Hid (Ch.allToken s.data.toList = Ch.isToken s.data.toList) := by
      unfold Hid Ch.isToken Ch.allToken; rw [← Lib.toList_data, hne]; simp
    go_enter Try.func42, Try.ntmps42
    go_wp2_with (go_at_call 30; refine (all_token _ _ hs).mono ?_; rintro e w' ⟨rfl, rfl⟩)
    go_ret
    exact ⟨ret_bool HT.out, rfl⟩
end Go.Proofs.Ytohddkniphcecab
