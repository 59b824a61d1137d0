/- Small texts, one behind the other: PlainRE, PlainRF, FlB, RqA. -/
import Derived.Test.YtbcmlolaihnalacGreatDoorPk12
import Derived.Test.YtbcmlolaihnalacGreatDoorPk6
import Derived.Test.YtbcmlolaihnalacGreatDoorPk8
import Derived.Test.YtbcmlolaihnalacGreatDoorPk11
/- Plain laws of requests of a stream: a request's text, and there and back. -/
namespace Go.Proofs.YtbcmlolaihnalacGreatDoor.Rq

/-- fields, a line each: a code, or their text -/
def lines : List Fl → Nat ⊕ List UInt8
  | [] => .inr []
  | f :: r => if (Fd.text f.1 f.2).2 ≠ 0 then .inl (Fd.text f.1 f.2).2 else match lines r with
    | .inl c => .inl c
    | .inr s => .inr ((Fd.text f.1 f.2).1 ++ 13 :: 10 :: s)
def nCL : List UInt8 := [67, 111, 110, 116, 101, 110, 116, 45, 76, 101, 110, 103, 116, 104]
def v11 : List UInt8 := [72, 84, 84, 80, 47, 49, 46, 49]
/-- a request's text, and a code -/
def text (h : Hd) (body : List UInt8) : List UInt8 × Nat :=
  if Ch.isToken h.method = false then ([], 6)
  else if h.target.head? ≠ some 47 ∨ 32 ∈ h.target ∨ 9 ∈ h.target ∨ Ch.isVisible h.target = false then ([], 5)
  else if 200 < h.method.length + h.target.length + 10 ∨ 4000 < body.length then ([], 4)
  else if 16 ≤ h.fields.length then ([], 8)
  else if vals h.fields nSize ≠ [] ∨ vals h.fields nCode ≠ [] then ([], 12)
  else if (vals h.fields nHost).length ≠ 1 then ([], 13)
  else match lines h.fields with
    | .inl c => ([], c)
    | .inr s => (h.method ++ 32 :: (h.target ++ 32 :: (v11 ++ 13 :: 10 :: (s ++ (nCL ++ [58, 32] ++ Ch.decF 8 body.length ++ 13 :: 10 :: 13 :: 10 :: body)))), 0)
/-- the head as it is read -/
def back (h : Hd) (body : List UInt8) : Hd := { h with minor := 1, fields := h.fields ++ [(nCL, Ch.decF 8 body.length)], length := (body.length : Int) }

theorem cut_end : ∀ (m w : List UInt8), (∀ b ∈ m, b ≠ 32) → cut w m = [w ++ m]
  | [], w, _ => by simp [cut]
  | c :: t, w, h => by
    rw [cut, if_neg (h c (List.mem_cons_self ..)), cut_end t (w ++ [c]) (fun b hb => h b (List.mem_cons_of_mem _ hb))]
    simp
theorem cut_word : ∀ (m w t : List UInt8), (∀ b ∈ m, b ≠ 32) → cut w (m ++ 32 :: t) = (w ++ m) :: cut [] t
  | [], w, t, _ => by simp [cut]
  | c :: m, w, t, h => by
    rw [List.cons_append, cut, if_neg (h c (List.mem_cons_self ..)), cut_word m (w ++ [c]) t (fun b hb => h b (List.mem_cons_of_mem _ hb))]
    simp
theorem token_fine (b : UInt8) (h : Ch.token b.toNat = true) : Ch.visible b.toNat = true ∧ b ≠ 32 := by
  have hb := b.toNat_lt
  have := (show ∀ n : Fin 256, Ch.token ((n.val.toUInt8).toNat : Int) = true → Ch.visible ((n.val.toUInt8).toNat : Int) = true ∧ n.val.toUInt8 ≠ 32 by decide +kernel) ⟨b.toNat, hb⟩
  have e : b.toNat.toUInt8 = b := by simp
  simp only [e] at this
  exact this h
theorem isToken_all {m : List UInt8} (h : Ch.isToken m = true) : m ≠ [] ∧ ∀ b ∈ m, Ch.visible b.toNat = true ∧ b ≠ 32 := by
  unfold Ch.isToken at h
  rw [Bool.and_eq_true] at h
  refine ⟨fun e => by rw [e] at h; exact absurd h.1 (by simp), fun b hb => token_fine b (List.all_eq_true.1 h.2 b hb)⟩
theorem seen_all {m : List UInt8} (h : Ch.isVisible m = true) : ∀ b ∈ m, Ch.visible b.toNat = true := fun b hb => List.all_eq_true.1 h b hb
/-- a first line that is read -/
theorem first_is {m g : List UInt8} (hm : Ch.isToken m = true) (hg : g.head? = some 47) (h32 : 32 ∉ g) (h9 : 9 ∉ g) : first (m ++ 32 :: (g ++ 32 :: v11)) = .inr ⟨m, g, 1, [], 0⟩ := by
  unfold first
  rw [cut_word m [] _ (fun b hb => ((isToken_all hm).2 b hb).2), cut_word g [] _ (fun b hb e => h32 (e ▸ hb)), cut_end v11 [] (by decide)]
  simp only [List.nil_append]
  rw [if_neg (by rw [hm]; simp), if_neg (by rw [hg]; simp [h9]), if_pos (show v11 = [72, 84, 84, 80, 47, 49, 46, 49] from rfl)]
/-- fields that are read -/
theorem field_line {n v : List UInt8} (h : (Fd.text n v).2 = 0) (r : List UInt8) : Ln.of ((Fd.text n v).1 ++ 13 :: 10 :: r) = ⟨(Fd.text n v).1, (Fd.text n v).1.length + 2, true, 0⟩ ∧ (Fd.text n v).1 ≠ [] ∧ Fd.of (Fd.text n v).1 = ⟨n, v, 0⟩ := by
  obtain ⟨hG, hl⟩ := Fd.text_zero h
  have e := Fd.text_good hG hl
  rw [e]
  simp only
  have ho := Fd.of_text hG
  refine ⟨Ck.line_of _ r (fun b hb => ?_) (by simp; omega), by simp, ho⟩
  unfold Fd.text at h
  have hT : Ch.isToken n = true := by
    cases ht : Ch.isToken n
    · rw [if_pos ht] at h; cases h
    · rfl
  rw [if_neg (by rw [hT]; simp)] at h
  have hV : Ch.isVisible v = true := by
    split at h
    · cases h
    · split at h
      · cases h
      · rename_i hh
        cases hv : Ch.isVisible v
        · exact absurd (Or.inl hv) hh
        · rfl
  simp only [List.mem_append, List.mem_cons, List.not_mem_nil, or_false] at hb
  rcases hb with (hb | rfl | rfl) | hb
  · exact ((isToken_all hT).2 b hb).1
  · decide
  · decide
  · exact seen_all hV b hb
theorem flds_lines : ∀ (fs acc : List Fl) (f : Nat) (rest s : List UInt8), lines fs = .inr s → acc.length + fs.length ≤ 16 → flds (f + fs.length) (s ++ rest) acc = flds f rest (acc ++ fs)
  | [], acc, f, rest, s, h, _ => by
    injection h with h; subst h
    simp
  | x :: fs, acc, f, rest, s, h, hl => by
    rw [lines] at h
    by_cases hc : (Fd.text x.1 x.2).2 = 0
    · rw [if_neg (fun e => e hc)] at h
      cases hs : lines fs with
      | inl c => rw [hs] at h; cases h
      | inr s' =>
        rw [hs] at h
        injection h with h; subst h
        simp only [List.length_cons] at hl
        obtain ⟨h1, h2, h3⟩ := field_line hc (s' ++ rest)
        have e : (Fd.text x.1 x.2).1 ++ 13 :: 10 :: s' ++ rest = (Fd.text x.1 x.2).1 ++ 13 :: 10 :: (s' ++ rest) := by simp
        rw [e, List.length_cons, ← Nat.add_assoc, flds, h1]
        simp only
        rw [if_neg (by simp), if_neg (by simp), if_neg h2, if_neg (by omega), h3]
        simp only
        rw [if_neg (by simp)]
        have hd : List.drop ((Fd.text x.1 x.2).1.length + 2) ((Fd.text x.1 x.2).1 ++ 13 :: 10 :: (s' ++ rest)) = s' ++ rest := by
          rw [← List.drop_drop, List.drop_left]; rfl
        rw [hd, flds_lines fs (acc ++ [(x.1, x.2)]) f rest s' hs (by simp; omega)]
        simp
    · rw [if_pos hc] at h; cases h
theorem dec_fine : ∀ (f n : Nat), n < 10 ^ (f + 1) → ∀ b ∈ Ch.decF f n, Ch.visible b.toNat = true ∧ Ch.ws.contains b = false := by
  have key : ∀ j, j < 10 → ∀ b ∈ Ch.decF 0 j, Ch.visible b.toNat = true ∧ Ch.ws.contains b = false := fun j hj => (show ∀ j : Fin 10, ∀ b ∈ Ch.decF 0 j.val, Ch.visible b.toNat = true ∧ Ch.ws.contains b = false by decide +kernel) ⟨j, hj⟩
  intro f
  induction f with
  | zero => intro n h b hb; exact key n (by simpa using h) b hb
  | succ f ih =>
    intro n h b hb
    unfold Ch.decF at hb
    split at hb
    · rename_i hn; exact key n hn b hb
    · rw [List.mem_append] at hb
      rcases hb with hb | hb
      · exact ih (n / 10) (by rw [Nat.pow_succ] at h; omega) b hb
      · exact key (n % 10) (by omega) b hb
/-- a Content-Length's own line -/
theorem cl_text (n : Nat) (h : n ≤ 4000) : (Fd.text nCL (Ch.decF 8 n)).2 = 0 ∧ (Fd.text nCL (Ch.decF 8 n)).1 = nCL ++ [58, 32] ++ Ch.decF 8 n := by
  have hf := dec_fine 8 n (by omega)
  have hl := Ch.decF_length 8 n
  have hk : nCL.length = 14 := rfl
  unfold Fd.text
  rw [if_neg (by decide), if_neg (by rw [hk]; omega), if_neg]
  · exact ⟨rfl, rfl⟩
  · rintro (e | e)
    · have : Ch.isVisible (Ch.decF 8 n) = true := List.all_eq_true.2 fun b hb => (hf b hb).1
      rw [this] at e; cases e
    · exact e (Ck.trim_none fun b hb => (hf b hb).2)
theorem vals_append (a b : List Fl) (n : List UInt8) : vals (a ++ b) n = vals a n ++ vals b n := by simp [vals]
/-- there and back: a request that was written, ahead of whatever follows -/
theorem go_text (h : Hd) (a rest : List UInt8) (f : Nat) (hc : (text h a).2 = 0) (hf : (text h a).1.length + rest.length < f + 1) :
    go (f + 1) ((text h a).1 ++ rest) = (.head (back h a) :: some_ a ++ .fin :: (go f rest).1, (go f rest).2) := by
  unfold text at hc hf ⊢
  by_cases h1 : Ch.isToken h.method = false
  · rw [if_pos h1] at hc; cases hc
  rw [if_neg h1] at hc hf ⊢
  by_cases h2 : h.target.head? ≠ some 47 ∨ 32 ∈ h.target ∨ 9 ∈ h.target ∨ Ch.isVisible h.target = false
  · rw [if_pos h2] at hc; cases hc
  rw [if_neg h2] at hc hf ⊢
  by_cases h3 : 200 < h.method.length + h.target.length + 10 ∨ 4000 < a.length
  · rw [if_pos h3] at hc; cases hc
  rw [if_neg h3] at hc hf ⊢
  by_cases h4 : 16 ≤ h.fields.length
  · rw [if_pos h4] at hc; cases hc
  rw [if_neg h4] at hc hf ⊢
  by_cases h5 : vals h.fields nSize ≠ [] ∨ vals h.fields nCode ≠ []
  · rw [if_pos h5] at hc; cases hc
  rw [if_neg h5] at hc hf ⊢
  by_cases h6 : (vals h.fields nHost).length ≠ 1
  · rw [if_pos h6] at hc; cases hc
  rw [if_neg h6] at hc hf ⊢
  cases hs : lines h.fields with
  | inl c => 
    rw [hs] at hc
    exfalso
    have key : ∀ fs c, lines fs = .inl c → c ≠ 0 := by
      intro fs
      induction fs with
      | nil => intro c e; cases e
      | cons x r ih =>
        intro c e
        rw [lines] at e
        split at e
        · rename_i hx; injection e with e; subst e; exact hx
        · cases hr : lines r with
          | inl d => rw [hr] at e; injection e with e; subst e; exact ih d hr
          | inr d => rw [hr] at e; cases e
    exact key _ c hs hc
  | inr s =>
    rw [hs] at hf
    simp only at hf ⊢
    clear hc
    have hm : Ch.isToken h.method = true := by
      cases e : Ch.isToken h.method
      · exact absurd e h1
      · rfl
    have hg1 : h.target.head? = some 47 := by
      rcases Decidable.em (h.target.head? = some 47) with e | e
      · exact e
      · exact absurd (Or.inl e) h2
    have hg2 : 32 ∉ h.target := fun e => h2 (Or.inr (Or.inl e))
    have hg3 : 9 ∉ h.target := fun e => h2 (Or.inr (Or.inr (Or.inl e)))
    have hg4 : Ch.isVisible h.target = true := by
      cases e : Ch.isVisible h.target
      · exact absurd (Or.inr (Or.inr (Or.inr e))) h2
      · rfl
    have ha : a.length ≤ 4000 := by omega
    obtain ⟨c1, c2⟩ := cl_text a.length ha
    -- the first line
    have e0 : h.method ++ 32 :: (h.target ++ 32 :: (v11 ++ 13 :: 10 :: (s ++ (nCL ++ [58, 32] ++ Ch.decF 8 a.length ++ 13 :: 10 :: 13 :: 10 :: a)))) ++ rest = (h.method ++ 32 :: (h.target ++ 32 :: v11)) ++ 13 :: 10 :: (s ++ ((nCL ++ [58, 32] ++ Ch.decF 8 a.length) ++ 13 :: 10 :: (13 :: 10 :: (a ++ rest)))) := by simp
    have hlen : (h.method ++ 32 :: (h.target ++ 32 :: v11)).length = h.method.length + h.target.length + 10 := by
      simp [v11]; omega
    have hl0 := Ck.line_of (h.method ++ 32 :: (h.target ++ 32 :: v11)) (s ++ ((nCL ++ [58, 32] ++ Ch.decF 8 a.length) ++ 13 :: 10 :: (13 :: 10 :: (a ++ rest)))) (fun b hb => by
      rw [List.mem_append, List.mem_cons, List.mem_append, List.mem_cons] at hb
      rcases hb with hb | rfl | hb | rfl | hb
      · exact ((isToken_all hm).2 b hb).1
      · decide
      · exact seen_all hg4 b hb
      · decide
      · exact (show ∀ b ∈ v11, Ch.visible b.toNat = true by decide) b hb) (by omega)
    have hne : h.method ++ 32 :: (h.target ++ 32 :: v11) ≠ [] := by simp
    have hdrop : List.drop ((h.method ++ 32 :: (h.target ++ 32 :: v11)).length + 2) ((h.method ++ 32 :: (h.target ++ 32 :: v11)) ++ 13 :: 10 :: (s ++ ((nCL ++ [58, 32] ++ Ch.decF 8 a.length) ++ 13 :: 10 :: (13 :: 10 :: (a ++ rest))))) = s ++ ((nCL ++ [58, 32] ++ Ch.decF 8 a.length) ++ 13 :: 10 :: (13 :: 10 :: (a ++ rest))) := by
      rw [← List.drop_drop, List.drop_left]; rfl
    have htot : h.fields.length + 2 ≤ f := by
      have hk : h.fields.length ≤ 15 := by omega
      have : (nCL ++ [58, 32] ++ Ch.decF 8 a.length ++ 13 :: 10 :: 13 :: 10 :: a).length ≥ 20 := by simp [nCL]; omega
      simp only [List.length_append, List.length_cons] at hf this
      omega
    have hfl : flds (f + 1) (s ++ ((nCL ++ [58, 32] ++ Ch.decF 8 a.length) ++ 13 :: 10 :: (13 :: 10 :: (a ++ rest)))) [] = .ok (h.fields ++ [(nCL, Ch.decF 8 a.length)]) (a ++ rest) := by
      obtain ⟨k, hk⟩ : ∃ k, f + 1 = (k + 2) + h.fields.length := ⟨f - 1 - h.fields.length, by omega⟩
      rw [hk, flds_lines h.fields [] (k + 2) _ s hs (by simp; omega), ← c2]
      obtain ⟨g1, g2, g3⟩ := field_line c1 (13 :: 10 :: (a ++ rest))
      rw [flds, g1]
      simp only
      rw [if_neg (by simp), if_neg (by simp), if_neg g2, if_neg (by simp; omega), g3]
      simp only
      rw [if_neg (by simp)]
      have hd2 : List.drop ((Fd.text nCL (Ch.decF 8 a.length)).1.length + 2) ((Fd.text nCL (Ch.decF 8 a.length)).1 ++ 13 :: 10 :: (13 :: 10 :: (a ++ rest))) = 13 :: 10 :: (a ++ rest) := by
        rw [← List.drop_drop, List.drop_left]; rfl
      have hl2 : Ln.of (13 :: 10 :: (a ++ rest)) = ⟨[], 2, true, 0⟩ := Ck.line_of [] (a ++ rest) (by simp) (by simp)
      rw [hd2, flds, hl2]
      simp
    have hv5 : vals h.fields nSize = [] ∧ vals h.fields nCode = [] := by
      constructor
      · rcases Decidable.em (vals h.fields nSize = []) with e | e
        · exact e
        · exact absurd (Or.inl e) h5
      · rcases Decidable.em (vals h.fields nCode = []) with e | e
        · exact e
        · exact absurd (Or.inr e) h5
    have w1 : vals [(nCL, Ch.decF 8 a.length)] nHost = [] := by
      have k : (Ch.lower nCL == nHost) = false := by decide
      simp only [vals, List.filter, k, List.map]
    have w2 : vals [(nCL, Ch.decF 8 a.length)] nCode = [] := by
      have k : (Ch.lower nCL == nCode) = false := by decide
      simp only [vals, List.filter, k, List.map]
    have w3 : vals [(nCL, Ch.decF 8 a.length)] nSize = [Ch.decF 8 a.length] := by
      have k : (Ch.lower nCL == nSize) = true := by decide
      simp only [vals, List.filter, k, List.map]
    have hln : len ⟨h.method, h.target, 1, h.fields ++ [(nCL, Ch.decF 8 a.length)], 0⟩ = .inr (a.length : Int) := by
      unfold len
      simp only [vals_append, w1, w2, w3, hv5.1, hv5.2, List.append_nil, List.nil_append]
      have h6' : (vals h.fields nHost).length = 1 := by omega
      rw [if_neg (by rw [h6']; simp), if_neg (by simp)]
      simp only [List.headD_cons]
      rw [sizes, Ch.number_dec a.length (by omega), if_neg (by simp), if_neg (by simp), sizes]
      simp only
      rw [if_neg (by omega)]
    rw [e0, go, hl0]
    simp only
    rw [if_neg (by simp), if_neg (by simp), if_neg hne, first_is hm hg1 hg2 hg3, hdrop]
    simp only
    rw [hfl]
    simp only
    rw [hln]
    simp only
    rw [if_pos (by omega), if_pos (by simp), Int.toNat_natCast, List.drop_left, List.take_left]
    rfl
end Go.Proofs.YtbcmlolaihnalacGreatDoor.Rq

/- Plain laws of requests of a stream: an event more behind events that are joined; what a reader keeps is so; a first line by its blanks. -/
namespace Go.Proofs.YtbcmlolaihnalacGreatDoor.Rq

/-- does it end with a body? -/
def tailed : List Ev → Bool
  | [] => false
  | [.body _] => true
  | _ :: r => tailed r
def Ev.isBody : Ev → Bool
  | .body _ => true
  | _ => false
theorem joined_snoc : ∀ (l : List Ev) (e : Ev), Joined l → (e.isBody = true → tailed l = false) → Joined (l ++ [e])
  | [], e, _, _ => by cases e <;> first | exact trivial | exact ⟨trivial, trivial⟩
  | [x], e, hl, h => by
    cases x with
    | body a =>
      cases e with
      | body b => exact absurd (h rfl) (by simp [tailed])
      | head _ => exact ⟨trivial, trivial⟩
      | fin => exact ⟨trivial, trivial⟩
      | fail _ => exact ⟨trivial, trivial⟩
    | head _ => cases e <;> first | exact trivial | exact ⟨trivial, trivial⟩
    | fin => cases e <;> first | exact trivial | exact ⟨trivial, trivial⟩
    | fail _ => cases e <;> first | exact trivial | exact ⟨trivial, trivial⟩
  | x :: y :: r, e, hl, h => by
    have h' : e.isBody = true → tailed (y :: r) = false := fun k => by
      have := h k
      cases x <;> exact this
    cases x with
    | body a => exact ⟨by have := hl.1; cases y <;> exact this, joined_snoc (y :: r) e hl.2 h'⟩
    | head _ => exact joined_snoc (y :: r) e hl h'
    | fin => exact joined_snoc (y :: r) e hl h'
    | fail _ => exact joined_snoc (y :: r) e hl h'
/-- an event more that stands behind no body, or is none -/
theorem join_plain {l : List Ev} {e : Ev} (hl : Joined l) (h : e.isBody = true → tailed l = false) : join (l ++ [e]) = l ++ [e] := join_of_joined _ (joined_snoc l e hl h)
theorem joined_same : ∀ (l : List Ev) (a b : List UInt8), Joined (l ++ [.body a]) → Joined (l ++ [.body b])
  | [], _, _, h => h
  | [.body x], _, _, h => absurd h.1 (fun k => k)
  | .body x :: y :: r, a, b, h => ⟨by have := h.1; cases y <;> exact this, joined_same (y :: r) a b h.2⟩
  | .head _ :: r, a, b, h => joined_same r a b h
  | .fin :: r, a, b, h => joined_same r a b h
  | .fail _ :: r, a, b, h => joined_same r a b h
/-- bytes of a body more behind such -/
theorem join_bodies {l : List Ev} {a b : List UInt8} (h : Joined (l ++ [.body a])) : join (l ++ [.body a] ++ [.body b]) = l ++ [.body (a ++ b)] := by
  rw [List.append_assoc, ← join_right]
  exact join_of_joined _ (joined_same l a (a ++ b) h)
theorem tailed_snoc : ∀ (l : List Ev) (e : Ev), tailed (l ++ [e]) = e.isBody
  | [], e => by cases e <;> rfl
  | x :: [], e => by cases x <;> cases e <;> rfl
  | x :: y :: r, e => by
    have := tailed_snoc (y :: r) e
    cases x <;> exact this
theorem tailed_split : ∀ (l : List Ev), tailed l = true → ∃ q a, l = q ++ [.body a]
  | [], h => by cases h
  | [x], h => by
    cases x with
    | body a => exact ⟨[], a, rfl⟩
    | head _ => cases h
    | fin => cases h
    | fail _ => cases h
  | x :: y :: r, h => by
    have : tailed (y :: r) = true := by cases x <;> exact h
    obtain ⟨q, a, e⟩ := tailed_split (y :: r) this
    exact ⟨x :: q, a, by rw [e]; rfl⟩
/-- events more, one behind the other -/
theorem join_two (l a b : List Ev) : join (join (l ++ a) ++ b) = join (l ++ (a ++ b)) := by rw [join_left, List.append_assoc]
theorem outs_snoc (s : St) (l : List UInt8) (c : UInt8) : outs s (l ++ [c]) = outs s l ++ (next (fold s l) c).2 := by
  rw [outs_append]; show _ ++ ((next (fold s l) c).2 ++ []) = _; rw [List.append_nil]
theorem fold_snoc (s : St) (l : List UInt8) (c : UInt8) : fold s (l ++ [c]) = (next (fold s l) c).1 := by rw [fold_append]; rfl

/-- a head that is read is so -/
structure HGood (h : Hd) : Prop where
  method : h.method.length ≤ 200
  target : h.target.length ≤ 200
  minor : h.minor ≤ 1
  many : h.fields.length ≤ 16
  fields : ∀ f ∈ h.fields, f.1.length ≤ 200 ∧ f.2.length ≤ 200
/-- what a reader keeps is so, whatever comes -/
structure Good (s : St) : Prop where
  ph : s.ph ≤ 4
  ln : Ln.Good s.ln
  lc : s.ln.code = 0
  hd : s.ph = 1 → HGood s.hd ∧ s.hd.length = 0
  left : s.ph = 2 → 0 < s.left ∧ s.left ≤ 4000
  ck : s.ph = 3 → Ck.Good s.ck ∧ s.ck.code = 0 ∧ s.ck.ph ≠ 4
def Ev.Fine : Ev → Prop
  | .head h => HGood h
  | _ => True
theorem Good.start : Good start := ⟨Nat.zero_le _, Ln.Good.start, rfl, (fun h => by cases h), (fun h => by cases h), (fun h => by cases h)⟩
theorem cut_len : ∀ (t w : List UInt8), (cut w t).length = t.count 32 + 1
  | [], w => rfl
  | c :: t, w => by
    rw [cut]
    by_cases h : c = 32
    · subst h
      rw [if_pos rfl, List.length_cons, cut_len t [], List.count_cons_self]
    · rw [if_neg h, cut_len t, List.count_cons_of_ne (by simpa using h)]
theorem split_at {c : UInt8} {t : List UInt8} (h : Fd.at_ c t < t.length) : t = t.take (Fd.at_ c t) ++ c :: t.drop (Fd.at_ c t + 1) := by
  conv => lhs; rw [← List.take_append_drop (Fd.at_ c t) t, List.drop_eq_getElem_cons h, Fd.at_here h]
theorem free_at {c : UInt8} {t : List UInt8} : ∀ b ∈ t.take (Fd.at_ c t), b ≠ c := by
  intro b hb
  obtain ⟨j, hj, rfl⟩ := List.mem_iff_getElem.1 hb
  rw [List.length_take] at hj
  rw [List.getElem_take]
  exact Fd.at_first (by omega) (by omega)
theorem count_at {c : UInt8} {t : List UInt8} (h : 0 < t.count c) : Fd.at_ c t < t.length := by
  rcases Nat.lt_or_ge (Fd.at_ c t) t.length with g | g
  · exact g
  · have := free_at (c := c) (t := t)
    rw [List.take_of_length_le g] at this
    have h0 : t.count c = 0 := List.count_eq_zero.2 (fun k => this c k rfl)
    omega
theorem count_rest {c : UInt8} {t : List UInt8} (h : Fd.at_ c t < t.length) : t.count c = (t.drop (Fd.at_ c t + 1)).count c + 1 := by
  conv => lhs; rw [split_at h]
  rw [List.count_append, List.count_cons_self, List.count_eq_zero.2 (fun k => free_at c k rfl)]
  omega
/-- a first line with just two blanks -/
theorem cut_three {t : List UInt8} (h : t.count 32 = 2) : Fd.at_ 32 t < t.length ∧ Fd.at_ 32 (t.drop (Fd.at_ 32 t + 1)) < (t.drop (Fd.at_ 32 t + 1)).length ∧
    cut [] t = [t.take (Fd.at_ 32 t), (t.drop (Fd.at_ 32 t + 1)).take (Fd.at_ 32 (t.drop (Fd.at_ 32 t + 1))), (t.drop (Fd.at_ 32 t + 1)).drop (Fd.at_ 32 (t.drop (Fd.at_ 32 t + 1)) + 1)] := by
  have h1 := count_at (c := 32) (t := t) (by omega)
  have e1 := count_rest h1
  have h2 := count_at (c := 32) (t := t.drop (Fd.at_ 32 t + 1)) (by omega)
  have e2 := count_rest h2
  refine ⟨h1, h2, ?_⟩
  have s1 := split_at h1
  have s2 := split_at h2
  have h3 : ∀ b ∈ (t.drop (Fd.at_ 32 t + 1)).drop (Fd.at_ 32 (t.drop (Fd.at_ 32 t + 1)) + 1), b ≠ 32 := fun b hb e => by
    have : 0 < ((t.drop (Fd.at_ 32 t + 1)).drop (Fd.at_ 32 (t.drop (Fd.at_ 32 t + 1)) + 1)).count 32 := List.count_pos_iff.2 (e ▸ hb)
    omega
  conv => lhs; rw [s1]
  rw [cut_word _ [] _ free_at, s2, cut_word _ [] _ free_at, cut_end _ [] h3]
  simp only [List.nil_append]
  rw [← s2]
theorem first_no {t : List UInt8} (h : t.count 32 ≠ 2) : first t = .inl 5 := by
  have := cut_len t []
  unfold first
  split
  · rename_i e; rw [e] at this; simp at this; omega
  · rfl
/-- a first line by its three pieces -/
def firstBy (m g v : List UInt8) : Nat ⊕ Hd :=
  if Ch.isToken m = false then .inl 6
  else if g.head? ≠ some 47 ∨ 9 ∈ g then .inl 5
  else if v = [72, 84, 84, 80, 47, 49, 46, 49] then .inr ⟨m, g, 1, [], 0⟩
  else if v = [72, 84, 84, 80, 47, 49, 46, 48] then .inr ⟨m, g, 0, [], 0⟩
  else .inl 11
theorem first_three {t : List UInt8} (h : t.count 32 = 2) : first t = firstBy (t.take (Fd.at_ 32 t)) ((t.drop (Fd.at_ 32 t + 1)).take (Fd.at_ 32 (t.drop (Fd.at_ 32 t + 1)))) ((t.drop (Fd.at_ 32 t + 1)).drop (Fd.at_ 32 (t.drop (Fd.at_ 32 t + 1)) + 1)) := by
  unfold first
  rw [(cut_three h).2.2]
  rfl
theorem first_good {t : List UInt8} {h : Hd} (ht : t.length ≤ 200) (e : first t = .inr h) : HGood h ∧ h.length = 0 := by
  by_cases hc : t.count 32 = 2
  · rw [first_three hc] at e
    unfold firstBy at e
    have l1 : (t.take (Fd.at_ 32 t)).length ≤ 200 := by rw [List.length_take]; omega
    have l2 : ((t.drop (Fd.at_ 32 t + 1)).take (Fd.at_ 32 (t.drop (Fd.at_ 32 t + 1)))).length ≤ 200 := by rw [List.length_take, List.length_drop]; omega
    split at e
    · cases e
    · split at e
      · cases e
      · split at e
        · injection e with e; subst e
          exact ⟨⟨l1, l2, Nat.le_refl _, Nat.zero_le _, fun f hf => by cases hf⟩, rfl⟩
        · split at e
          · injection e with e; subst e
            exact ⟨⟨l1, l2, Nat.zero_le _, Nat.zero_le _, fun f hf => by cases hf⟩, rfl⟩
          · cases e
  · rw [first_no hc] at e; cases e
theorem sizes_le : ∀ (f : List UInt8) (l : List (List UInt8)) (n k : Int), 0 ≤ n → sizes f n l = .inr k → 0 ≤ k
  | f, [], n, k, h0, e => by injection e with e; omega
  | f, v :: t, n, k, h0, e => by
    rw [sizes] at e
    split at e
    · cases e
    · split at e
      · cases e
      · refine sizes_le f t _ k ?_ e
        have : (Ch.number 10 9 v).1 = 0 ∨ (Ch.number 10 9 v).1 = Ch.numOf 10 v ∧ v.all (Ch.dig 10) = true ∧ v.length ≤ 9 := by
          by_cases g1 : v = [] ∨ (9 : Int) < v.length
          · rw [Ch.number_short 10 9 v g1]; exact Or.inl rfl
          · cases g2 : v.all (Ch.dig 10)
            · rw [Ch.number_no 10 9 v g2]; exact Or.inl rfl
            · rw [Ch.number_yes 10 9 v (fun e => g1 (Or.inl e)) (fun e => g1 (Or.inr e)) g2]
              exact Or.inr ⟨rfl, rfl, by omega⟩
        rcases this with g | ⟨g, g2, g3⟩
        · omega
        · rw [g]; exact (Ch.numOf_bound 10 (by omega) (by omega) v g2 g3).1
/-- a length that is told -/
theorem len_range {h : Hd} {k : Int} (e : len h = .inr k) : k = -1 ∨ 0 ≤ k ∧ k ≤ 4000 := by
  unfold len at e
  split at e
  · cases e
  · split at e
    · split at e
      · cases e
      · split at e
        · cases e
        · injection e with e; exact Or.inl e.symm
    · split at e
      · cases e
      · rename_i n hn
        split at e
        · cases e
        · injection e with e; subst e
          exact Or.inr ⟨sizes_le _ _ 0 _ (by omega) hn, by omega⟩
theorem Good.dead {s : St} (h : Good s) : Good (dead s) := ⟨Nat.le_refl _, h.ln, h.lc, (fun e => by cases e), (fun e => by cases e), (fun e => by cases e)⟩
theorem Good.line {s : St} (h : Good s) (hp : s.ph = 0 ∨ s.ph = 1) (t : List UInt8) (ht : t.length ≤ 200) : Good (line s t).1 ∧ ∀ e ∈ (line s t).2, e.Fine := by
  unfold Rq.line
  by_cases h0 : s.ph = 0
  · rw [if_pos h0]
    by_cases hn : t = []
    · rw [if_pos hn]; exact ⟨h, fun e he => by cases he⟩
    · rw [if_neg hn]
      cases hf : first t with
      | inl c => exact ⟨h.dead, fun e he => by simp at he; subst he; exact trivial⟩
      | inr hd => exact ⟨⟨by show 1 ≤ 4; omega, h.ln, h.lc, fun _ => first_good ht hf, (fun e => by cases e), (fun e => by cases e)⟩, fun e he => by cases he⟩
  · rw [if_neg h0]
    obtain ⟨hg, hl0⟩ := h.hd (by omega)
    have hH : ∀ k : Int, HGood { s.hd with length := k } := fun k => ⟨hg.method, hg.target, hg.minor, hg.many, hg.fields⟩
    by_cases hn : t = []
    · rw [if_pos hn]
      cases hk : len s.hd with
      | inl c => exact ⟨h.dead, fun e he => by simp at he; subst he; exact trivial⟩
      | inr k =>
        have hr := len_range hk
        simp only
        by_cases k0 : k = 0
        · rw [if_pos k0]
          refine ⟨⟨Nat.zero_le _, h.ln, h.lc, (fun e => by cases e), (fun e => by cases e), (fun e => by cases e)⟩, fun e he => ?_⟩
          simp at he
          rcases he with rfl | rfl
          · exact hH k
          · exact trivial
        · rw [if_neg k0]
          by_cases k1 : 0 < k
          · rw [if_pos k1]
            refine ⟨⟨by show 2 ≤ 4; omega, h.ln, h.lc, (fun e => by cases e), fun _ => ⟨by show 0 < k.toNat; omega, by show k.toNat ≤ 4000; omega⟩, (fun e => by cases e)⟩, fun e he => ?_⟩
            simp at he
            subst he
            exact hH k
          · rw [if_neg k1]
            refine ⟨⟨by show 3 ≤ 4; omega, h.ln, h.lc, (fun e => by cases e), (fun e => by cases e), fun _ => ⟨Ck.Good.start, rfl, by show (0 : Nat) ≠ 4; omega⟩⟩, fun e he => ?_⟩
            simp at he
            subst he
            exact hH k
    · rw [if_neg hn]
      split
      · exact ⟨h.dead, fun e he => by simp at he; subst he; exact trivial⟩
      · rename_i h16
        split
        · exact ⟨h.dead, fun e he => by simp at he; subst he; exact trivial⟩
        · have := Fd.of_length t
          refine ⟨⟨h.ph, h.ln, h.lc, fun _ => ⟨⟨hg.method, hg.target, hg.minor, ?_, fun f hf => ?_⟩, hl0⟩, h.left, h.ck⟩, fun e he => by cases he⟩
          · have := hg.many
            show (s.hd.fields ++ [((Fd.of t).name, (Fd.of t).value)]).length ≤ 16
            rw [List.length_append]; simp; omega
          · rcases List.mem_append.1 hf with hf | hf
            · exact hg.fields f hf
            · simp at hf; subst hf; exact ⟨Nat.le_trans this.1 ht, Nat.le_trans this.2 ht⟩
theorem text_short {s : Ln.St} {c : UInt8} (h : Ln.Good s) : (Ln.text s c).length ≤ 200 ∧ ∀ b ∈ Ln.text s c, Ch.visible b.toNat = true := by
  unfold Ln.text
  split
  · exact ⟨h.short, h.seen⟩
  · exact ⟨Nat.zero_le _, fun b hb => by cases hb⟩
theorem Good.next {s : St} (h : Good s) (c : UInt8) : Good (next s c).1 ∧ ∀ e ∈ (next s c).2, e.Fine := by
  have h0 : Good { s with ph := 0 } := ⟨Nat.zero_le _, h.ln, h.lc, (fun e => by cases e), (fun e => by cases e), (fun e => by cases e)⟩
  unfold Rq.next
  split
  · exact ⟨h, fun e he => by cases he⟩
  · split
    · rename_i h2
      obtain ⟨l1, l2⟩ := h.left h2
      split
      · refine ⟨⟨Nat.zero_le _, h.ln, h.lc, (fun e => by cases e), (fun e => by cases e), (fun e => by cases e)⟩, fun e he => ?_⟩
        simp at he
        rcases he with rfl | rfl <;> exact trivial
      · refine ⟨⟨h.ph, h.ln, h.lc, h.hd, fun _ => ⟨by show 0 < s.left - 1; omega, by show s.left - 1 ≤ 4000; omega⟩, h.ck⟩, fun e he => ?_⟩
        simp at he
        subst he; exact trivial
    · split
      · rename_i h3
        obtain ⟨k1, k2, k3⟩ := h.ck h3
        split
        · exact ⟨h.dead, fun e he => by simp at he; subst he; exact trivial⟩
        · split
          · exact ⟨h0, fun e he => by simp at he; subst he; exact trivial⟩
          · rename_i hA hB
            refine ⟨⟨h.ph, h.ln, h.lc, h.hd, h.left, fun _ => ⟨k1.next c, by show (Ck.next s.ck c).code = 0; omega, hB⟩⟩, fun e he => ?_⟩
            unfold some_ at he
            split at he
            · cases he
            · simp at he; subst he; exact trivial
      · rename_i h4 h2 h3
        have hp := h.ph
        split
        · exact ⟨h.dead, fun e he => by simp at he; subst he; exact trivial⟩
        · split
          · have hs : Good { s with ln := Ln.start } := ⟨h.ph, Ln.Good.start, rfl, h.hd, h.left, h.ck⟩
            exact hs.line (by show s.ph = 0 ∨ s.ph = 1; omega) _ (text_short h.ln).1
          · exact ⟨⟨h.ph, Ln.next_good h.ln, by rename_i a _; show (Ln.next s.ln c).code = 0; omega, h.hd, h.left, h.ck⟩, fun e he => by cases he⟩
theorem Good.fold : ∀ (l : List UInt8) {s : St}, Good s → Good (fold s l)
  | [], _, h => h
  | c :: t, s, h => Good.fold t (s := (Rq.next s c).1) (h.next c).1
theorem fine_outs : ∀ (l : List UInt8) {s : St}, Good s → ∀ e ∈ outs s l, e.Fine
  | [], _, _ => fun e he => by cases he
  | c :: t, s, h => fun e he => by
    rcases List.mem_append.1 he with he | he
    · exact (h.next c).2 e he
    · exact fine_outs t (h.next c).1 e he
theorem fine_join : ∀ (l : List Ev), (∀ e ∈ l, e.Fine) → ∀ e ∈ join l, e.Fine
  | [], _ => fun e he => by cases he
  | .head h :: r, k => fun e he => by
    rw [join] at he
    rcases List.mem_cons.1 he with rfl | he
    · exact k _ (List.mem_cons_self ..)
    · exact fine_join r (fun x hx => k x (List.mem_cons_of_mem _ hx)) e he
  | .fin :: r, k => fun e he => by
    rw [join] at he
    rcases List.mem_cons.1 he with rfl | he
    · exact trivial
    · exact fine_join r (fun x hx => k x (List.mem_cons_of_mem _ hx)) e he
  | .fail c :: r, k => fun e he => by
    rw [join] at he
    rcases List.mem_cons.1 he with rfl | he
    · exact trivial
    · exact fine_join r (fun x hx => k x (List.mem_cons_of_mem _ hx)) e he
  | .body a :: r, k => fun e he => by
    have ih := fine_join r (fun x hx => k x (List.mem_cons_of_mem _ hx))
    rw [join] at he
    cases hj : join r with
    | nil => rw [hj] at he; simp at he; subst he; exact trivial
    | cons y q =>
      rw [hj] at he ih
      cases y with
      | body b =>
        rcases List.mem_cons.1 he with rfl | he
        · exact trivial
        · exact ih e (List.mem_cons_of_mem _ he)
      | head h =>
        rcases List.mem_cons.1 he with rfl | he
        · exact trivial
        · exact ih e he
      | fin =>
        rcases List.mem_cons.1 he with rfl | he
        · exact trivial
        · exact ih e he
      | fail c =>
        rcases List.mem_cons.1 he with rfl | he
        · exact trivial
        · exact ih e he
end Go.Proofs.YtbcmlolaihnalacGreatDoor.Rq

/- Fields as they lie in memory, as plain bytes; a body's length by the values of its head's fields. -/
namespace Go.Proofs.YtbcmlolaihnalacGreatDoor
open Go.RowKit

/-- a length or a code, as a value -/
def Rq.lenVal : Nat ⊕ Int → Value
  | .inl c => .tuple #[.int .i64 0, .int .i64 (c : Int)]
  | .inr k => .tuple #[.int .i64 k, .int .i64 0]
/-- fields as bytes -/
def Rq.flB (l : List (ByteArray × ByteArray)) : List Rq.Fl := l.map fun p => (p.1.data.toList, p.2.data.toList)
theorem Rq.vals_flB (l : List (ByteArray × ByteArray)) (name : ByteArray) (hn : Ch.lower name.data.toList = name.data.toList) : Rq.vals (Rq.flB l) name.data.toList = (Fd.vals name l).map (fun x => x.data.toList) := by
  unfold Rq.vals Rq.flB Fd.vals
  rw [List.filter_map, List.map_map, List.map_map, hn]
  have e : (fun f : Rq.Fl => Ch.lower f.1 == name.data.toList) ∘ (fun p : ByteArray × ByteArray => (p.1.data.toList, p.2.data.toList)) = fun p => decide (Ch.lower p.1.data.toList = name.data.toList) := by
    funext p; rw [Bool.eq_iff_iff]; simp
  rw [e]
  rfl
def bHost : ByteArray := ⟨#[104, 111, 115, 116]⟩
def bSize : ByteArray := ⟨#[99, 111, 110, 116, 101, 110, 116, 45, 108, 101, 110, 103, 116, 104]⟩
def bCode : ByteArray := ⟨#[116, 114, 97, 110, 115, 102, 101, 114, 45, 101, 110, 99, 111, 100, 105, 110, 103]⟩
theorem Fd.vals_mem {name : ByteArray} {l : List (ByteArray × ByteArray)} {v : ByteArray} (h : v ∈ Fd.vals name l) : ∃ p ∈ l, p.2 = v := by
  unfold Fd.vals at h
  obtain ⟨p, hp, e⟩ := List.mem_map.1 h
  exact ⟨p, (List.mem_filter.1 hp).1, e⟩

/-- a body's length, by the values of its head's fields -/
def Rq.lenOf (mi : Nat) (H V C : List (List UInt8)) : Nat ⊕ Int :=
  if 1 < H.length ∨ H.length = 0 ∧ mi = 1 then .inl 13
  else if C ≠ [] then
    (if V ≠ [] ∨ mi = 0 then .inl 12
     else if C.length ≠ 1 ∨ Ch.lower (C.headD []) ≠ Rq.nChunked then .inl 11
     else .inr (-1))
  else match Rq.sizes (V.headD []) 0 V with
    | .inl c => .inl c
    | .inr n => if 4000 < n then .inl 4 else .inr n
theorem Rq.len_eq (h : Rq.Hd) : Rq.len h = Rq.lenOf h.minor (Rq.vals h.fields Rq.nHost) (Rq.vals h.fields Rq.nSize) (Rq.vals h.fields Rq.nCode) := rfl
def Rq.lists (vs : List ByteArray) : List (List UInt8) := vs.map fun x => x.data.toList
/-- fields as texts -/
def Rq.flT (l : List Rq.Fl) : List (ByteArray × ByteArray) := l.map fun p => (⟨p.1.toArray⟩, ⟨p.2.toArray⟩)
theorem Rq.flB_flT (l : List Rq.Fl) : Rq.flB (Rq.flT l) = l := by
  unfold Rq.flB Rq.flT
  rw [List.map_map]
  exact List.map_id' l
theorem Rq.flT_length (l : List Rq.Fl) : (Rq.flT l).length = l.length := by simp [Rq.flT]
theorem Rq.flT_append (a b : List Rq.Fl) : Rq.flT (a ++ b) = Rq.flT a ++ Rq.flT b := by simp [Rq.flT]
/-- a name in letters small or not -/
theorem Fd.vals_same (a b : ByteArray) (l : List (ByteArray × ByteArray)) (h : Ch.lower a.data.toList = Ch.lower b.data.toList) : Fd.vals a l = Fd.vals b l := by
  unfold Fd.vals; rw [h]
/-- Content-Lengths: one number, or a code -/
def Rq.sameNum (V : List (List UInt8)) : Nat ⊕ Int :=
  match Rq.sizes (V.headD []) 0 V with
    | .inl c => .inl c
    | .inr n => if 4000 < n then .inl 4 else .inr n
/-- a length behind the Host -/
def Rq.lenBy (mi : Nat) (V C : List (List UInt8)) : Nat ⊕ Int :=
  if C ≠ [] then
    (if V ≠ [] ∨ mi = 0 then .inl 12
     else if C.length ≠ 1 ∨ Ch.lower (C.headD []) ≠ Rq.nChunked then .inl 11
     else .inr (-1))
  else Rq.sameNum V
theorem Rq.lenOf_eq (mi : Nat) (H V C : List (List UInt8)) : Rq.lenOf mi H V C = if 1 < H.length ∨ H.length = 0 ∧ mi = 1 then .inl 13 else Rq.lenBy mi V C := rfl
theorem Rq.number_range (x : List UInt8) : 0 ≤ (Ch.number 10 9 x).1 ∧ (Ch.number 10 9 x).1 < 68719476736 := by
  unfold Ch.number
  split
  · exact ⟨Int.le_refl _, by decide⟩
  · split
    · rename_i h1 h2
      have hl9 : ¬ (9 : Int) < x.length := fun e => h1 (Or.inr e)
      exact Ch.numOf_bound 10 (by omega) (by omega) _ h2 (by omega)
    · exact ⟨Int.le_refl _, by decide⟩
end Go.Proofs.YtbcmlolaihnalacGreatDoor

/- A reader of requests as it lies in memory; New, Dead walked. -/
namespace Go.Proofs.YtbcmlolaihnalacGreatDoor
open Go.RowKit

/-- block g is a parser whose cells are these -/
structure PsAt (w : World) (g : Nat) (lp hp : Value) (wh : Bool) (bd : Value) (code : Int) : Prop where
  row : w.heap[g]? = some (.cells #[lp, hp, .bool wh, bd, .int .i64 code] 62 (0, 0))
section
variable {w w' : World} {g : Nat} {lp hp bd : Value} {wh : Bool} {code : Int}
theorem PsAt.lt (h : PsAt w g lp hp wh bd code) : g < w.heap.size := (Array.getElem?_eq_some_iff.1 h.row).1
theorem PsAt.c0 (h : PsAt w g lp hp wh bd code) : w.cell? ⟨g, 0, none⟩ = some lp := cell_of_row w g 0 _ _ _ h.row
theorem PsAt.c1 (h : PsAt w g lp hp wh bd code) : w.cell? ⟨g, 1, none⟩ = some hp := cell_of_row w g 1 _ _ _ h.row
theorem PsAt.c2 (h : PsAt w g lp hp wh bd code) : w.cell? ⟨g, 2, none⟩ = some (.bool wh) := cell_of_row w g 2 _ _ _ h.row
theorem PsAt.c3 (h : PsAt w g lp hp wh bd code) : w.cell? ⟨g, 3, none⟩ = some bd := cell_of_row w g 3 _ _ _ h.row
theorem PsAt.c4 (h : PsAt w g lp hp wh bd code) : w.cell? ⟨g, 4, none⟩ = some (.int .i64 code) := cell_of_row w g 4 _ _ _ h.row
theorem PsAt.fz (h : PsAt w g lp hp wh bd code) (j : Nat) : w.frozen? ⟨g, j, none⟩ = false := frozen_of_row w g j _ _ h.row
theorem PsAt.stay (h : PsAt w g lp hp wh bd code) (hb : Below w.heap.size w w') : PsAt w' g lp hp wh bd code := ⟨(hb.block g h.lt).trans h.row⟩
theorem PsAt.turns {S : Nat → Prop} (h : PsAt w g lp hp wh bd code) (ht : Turns S w w') (hs : ¬ S g) : PsAt w' g lp hp wh bd code := ⟨ht.row h.row hs⟩
theorem PsAt.s0 (h : PsAt w g lp hp wh bd code) (v : Value) : PsAt (w.setCell ⟨g, 0, none⟩ v) g v hp wh bd code := ⟨by rw [heap_setCell_same w g 0 _ _ _ h.row]; rfl⟩
theorem PsAt.s1 (h : PsAt w g lp hp wh bd code) (v : Value) : PsAt (w.setCell ⟨g, 1, none⟩ v) g lp v wh bd code := ⟨by rw [heap_setCell_same w g 1 _ _ _ h.row]; rfl⟩
theorem PsAt.s2 (h : PsAt w g lp hp wh bd code) (v : Bool) : PsAt (w.setCell ⟨g, 2, none⟩ (.bool v)) g lp hp v bd code := ⟨by rw [heap_setCell_same w g 2 _ _ _ h.row]; rfl⟩
theorem PsAt.s3 (h : PsAt w g lp hp wh bd code) (v : Value) : PsAt (w.setCell ⟨g, 3, none⟩ v) g lp hp wh v code := ⟨by rw [heap_setCell_same w g 3 _ _ _ h.row]; rfl⟩
theorem PsAt.s4 (h : PsAt w g lp hp wh bd code) (v : Int) : PsAt (w.setCell ⟨g, 4, none⟩ (.int .i64 v)) g lp hp wh bd v := ⟨by rw [heap_setCell_same w g 4 _ _ _ h.row]; rfl⟩
end
/-- block gh is a head that is read; it and its fields are among the blocks S -/
def HeadAt (w : World) (S : Nat → Prop) (gh : Nat) (h : Rq.Hd) : Prop :=
  ∃ fo fcap, w.heap[gh]? = some (.cells #[.string ⟨h.method.toArray⟩, .string ⟨h.target.toArray⟩, .int .i64 (h.minor : Int), .slice fo h.fields.length fcap, .int .i64 h.length] 36 (0, 0)) ∧
    OwnV w 0 43 2 fo fcap h.fields.length (pairV (Rq.flT h.fields)) ∧ S gh ∧ ∀ a, fo = some a → S a.block
theorem HeadAt.lt {w : World} {S : Nat → Prop} {gh : Nat} {h : Rq.Hd} (k : HeadAt w S gh h) : gh < w.heap.size := by
  obtain ⟨_, _, hg, _⟩ := k; exact (Array.getElem?_eq_some_iff.1 hg).1
theorem HeadAt.mono {w : World} {S S' : Nat → Prop} {gh : Nat} {h : Rq.Hd} (k : HeadAt w S gh h) (hs : ∀ k, k < w.heap.size → S k → S' k) : HeadAt w S' gh h := by
  obtain ⟨fo, fcap, hg, ho, h1, h2⟩ := k
  exact ⟨fo, fcap, hg, ho, hs gh (Array.getElem?_eq_some_iff.1 hg).1 h1, fun a e => hs _ (ho.block a e).2 (h2 a e)⟩
theorem HeadAt.turns {w w' : World} {S S' : Nat → Prop} {gh : Nat} {h : Rq.Hd} (k : HeadAt w S gh h) (ht : Turns S' w w') (hs : ∀ k, S k → ¬ S' k) : HeadAt w' S gh h := by
  obtain ⟨fo, fcap, hg, ho, h1, h2⟩ := k
  exact ⟨fo, fcap, ht.row hg (hs gh h1), ho.turns ht (fun a e => hs _ (h2 a e)), h1, h2⟩
theorem HeadAt.stay {w w' : World} {S : Nat → Prop} {gh : Nat} {h : Rq.Hd} (k : HeadAt w S gh h) (hb : Below w.heap.size w w') : HeadAt w' S gh h := k.turns (Turns.of_below (S := fun _ => False) hb) (fun _ _ e => e)
/-- the fields' block is another one -/
theorem fields_ne {w : World} {gh : Nat} {cs : Array Value} {fo : Option Addr} {fcap n : Nat} {xs : List Value} (hg : w.heap[gh]? = some (.cells cs 36 (0, 0))) (ho : OwnV w 0 43 2 fo fcap n xs) : ∀ a, fo = some a → a.block ≠ gh := by
  intro a e e2
  have := row_ne hg ho (by decide)
  rw [ownBlock_slice, e] at this
  exact this (by simp [blockOf, e2])
/-- a length is laid into it -/
theorem HeadAt.len {w : World} {S : Nat → Prop} {gh : Nat} {h : Rq.Hd} (k : HeadAt w S gh h) (n : Int) : HeadAt (w.setCell ⟨gh, 4, none⟩ (.int .i64 n)) S gh { h with length := n } ∧ Turns S w (w.setCell ⟨gh, 4, none⟩ (.int .i64 n)) := by
  obtain ⟨fo, fcap, hg, ho, h1, h2⟩ := k
  refine ⟨⟨fo, fcap, ?_, ho.turns (Turns.setCell (fun i => i = gh) w _ _ rfl) (fun a e => fields_ne hg ho a e), h1, h2⟩, Turns.setCell S w _ _ h1⟩
  rw [heap_setCell_same w gh 4 _ _ _ hg]; rfl
/-- what a parser that keeps s holds -/
inductive RqIn (w : World) (C : Nat → Prop) (s : Rq.St) : Value → Value → Value → Int → Prop
  | dead (c : Nat) (hc : c ≠ 0) (h : s.ph = 4) : RqIn w C s (.pointer none) (.pointer none) .nilIface (c : Int)
  | at0 (gl : Nat) (h : s.ph = 0) (L : LineAt w C gl s.ln) : RqIn w C s (.pointer (some ⟨gl, 0, none⟩)) (.pointer none) .nilIface 0
  | at1 (gl gh : Nat) (D : Nat → Prop) (h : s.ph = 1) (L : LineAt w (fun k => C k ∧ ¬ D k) gl s.ln) (H : HeadAt w (fun k => C k ∧ D k) gh s.hd) : RqIn w C s (.pointer (some ⟨gl, 0, none⟩)) (.pointer (some ⟨gh, 0, none⟩)) .nilIface 0
  | at2 (gl gb : Nat) (h : s.ph = 2) (L : LineAt w (fun k => C k ∧ k ≠ gb) gl s.ln) (hb : C gb) (B : w.heap[gb]? = some (.cells #[.int .i64 (s.left : Int)] 109 (0, 0))) : RqIn w C s (.pointer (some ⟨gl, 0, none⟩)) (.pointer none) (.iface 107 (.pointer (some ⟨gb, 0, none⟩))) 0
  | at3 (gl gb : Nat) (D : Nat → Prop) (h : s.ph = 3) (L : LineAt w (fun k => C k ∧ ¬ D k) gl s.ln) (B : CkAt w (fun k => C k ∧ D k) gb s.ck) : RqIn w C s (.pointer (some ⟨gl, 0, none⟩)) (.pointer none) (.iface 105 (.pointer (some ⟨gb, 0, none⟩))) 0
theorem RqIn.mono {w : World} {C C' : Nat → Prop} {s : Rq.St} {lp hp bd : Value} {code : Int} (h : RqIn w C s lp hp bd code) (hs : ∀ k, k < w.heap.size → C k → C' k) : RqIn w C' s lp hp bd code := by
  cases h with
  | dead c hc h => exact .dead c hc h
  | at0 gl h L => exact .at0 gl h (L.mono hs)
  | at1 gl gh D h L H => exact .at1 gl gh D h (L.mono (fun k hk e => ⟨hs k hk e.1, e.2⟩)) (H.mono (fun k hk e => ⟨hs k hk e.1, e.2⟩))
  | at2 gl gb h L hb B => exact .at2 gl gb h (L.mono (fun k hk e => ⟨hs k hk e.1, e.2⟩)) (hs gb (Array.getElem?_eq_some_iff.1 B).1 hb) B
  | at3 gl gb D h L B => exact .at3 gl gb D h (L.mono (fun k hk e => ⟨hs k hk e.1, e.2⟩)) (B.mono (fun k hk e => ⟨hs k hk e.1, e.2⟩))
theorem RqIn.turns {w w' : World} {C S' : Nat → Prop} {s : Rq.St} {lp hp bd : Value} {code : Int} (h : RqIn w C s lp hp bd code) (ht : Turns S' w w') (hs : ∀ k, C k → ¬ S' k) : RqIn w' C s lp hp bd code := by
  cases h with
  | dead c hc h => exact .dead c hc h
  | at0 gl h L => exact .at0 gl h (L.turns ht hs)
  | at1 gl gh D h L H => exact .at1 gl gh D h (L.turns ht (fun k e => hs k e.1)) (H.turns ht (fun k e => hs k e.1))
  | at2 gl gb h L hb B => exact .at2 gl gb h (L.turns ht (fun k e => hs k e.1)) hb (ht.row B (hs gb hb))
  | at3 gl gb D h L B => exact .at3 gl gb D h (L.turns ht (fun k e => hs k e.1)) (B.turns ht (fun k e => hs k e.1))
/-- block g is a parser that keeps s; it and all its memory are among the blocks S -/
def ReqAt (w : World) (S : Nat → Prop) (g : Nat) (s : Rq.St) : Prop :=
  S g ∧ ∃ lp hp bd code, PsAt w g lp hp false bd code ∧ RqIn w (fun k => S k ∧ k ≠ g) s lp hp bd code
theorem ReqAt.lt {w : World} {S : Nat → Prop} {g : Nat} {s : Rq.St} (h : ReqAt w S g s) : g < w.heap.size := by
  obtain ⟨_, _, _, _, _, hP, _⟩ := h; exact hP.lt
theorem ReqAt.mono {w : World} {S S' : Nat → Prop} {g : Nat} {s : Rq.St} (h : ReqAt w S g s) (hs : ∀ k, k < w.heap.size → S k → S' k) : ReqAt w S' g s := by
  obtain ⟨h1, lp, hp, bd, code, hP, hI⟩ := h
  exact ⟨hs g hP.lt h1, lp, hp, bd, code, hP, hI.mono (fun k hk e => ⟨hs k hk e.1, e.2⟩)⟩
theorem ReqAt.turns {w w' : World} {S S' : Nat → Prop} {g : Nat} {s : Rq.St} (h : ReqAt w S g s) (ht : Turns S' w w') (hs : ∀ k, S k → ¬ S' k) : ReqAt w' S g s := by
  obtain ⟨h1, lp, hp, bd, code, hP, hI⟩ := h
  exact ⟨h1, lp, hp, bd, code, hP.turns ht (hs g h1), hI.turns ht (fun k e => hs k e.1)⟩
theorem ReqAt.stay {w w' : World} {S : Nat → Prop} {g : Nat} {s : Rq.St} (h : ReqAt w S g s) (hb : Below w.heap.size w w') : ReqAt w' S g s := h.turns (Turns.of_below (S := fun _ => False) hb) (fun _ _ e => e)

set_option maxHeartbeats 400000 in
theorem newReq_any (w : World) :
    Calls Tryz.prog 7 #[] w fun e w' => ∃ g, e = .returned (.pointer (some ⟨g, 0, none⟩)) ∧ ReqAt w' (fun k => w.heap.size ≤ k) g Rq.start ∧ Below w.heap.size w w' := by
  go_enter Tryz.func7, Tryz.ntmps7
  go_wp2_with fail
  refine (newLines_any w).mono ?_
  rintro e w1 ⟨rfl, hL, hB⟩
  have HL := Hid.mk' hL; have HB := Hid.mk' hB
  clear hL hB
  go_wp2
  go_ret
  have hsz := HB.out.size
  have hlt := HL.out.lt
  have hB2 : Below w1.heap.size w1 (w1.alloc (.cells #[.pointer (some ⟨w.heap.size, 0, none⟩), .pointer none, .bool false, .nilIface, .int .i64 0] 62)) := (Below.refl _ _).alloc (Nat.le_refl _) _
  have hL2 := (HL.out.mono (S' := fun k => w.heap.size ≤ k ∧ k ≠ w1.heap.size) (fun k hk e => ⟨e, by omega⟩)).turns (Turns.of_below (S := fun _ => False) hB2) (fun _ _ e => e)
  exact ⟨w1.heap.size, rfl, ⟨hsz, _, _, _, _, ⟨heap_alloc_new w1 _⟩, .at0 w.heap.size rfl hL2⟩, HB.out.trans ((Below.refl _ _).alloc hsz _)⟩

theorem dead_any (w : World) (S : Nat → Prop) (g : Nat) (s : Rq.St) (h : ReqAt w S g s) :
    Calls Tryz.prog 13 #[.pointer (some ⟨g, 0, none⟩)] w fun e w' => e = .returned (.bool (decide (s.ph = 4))) ∧ w' = w := by
  obtain ⟨_, lp, hp, bd, code, hP, hI⟩ := h
  have c4 := hP.c4
  have hd : (code != 0) = decide (s.ph = 4) := by
    cases hI with
    | dead c hc h => rw [decide_eq_true h, bne_iff_ne]; omega
    | at0 gl h L => rw [decide_eq_false (by omega)]; rfl
    | at1 gl gh D h L H => rw [decide_eq_false (by omega)]; rfl
    | at2 gl gb h L hb B => rw [decide_eq_false (by omega)]; rfl
    | at3 gl gb D h L B => rw [decide_eq_false (by omega)]; rfl
  generalize decide (s.ph = 4) = dd at hd ⊢
  clear hP hI
  go_enter Tryz.func13, Tryz.ntmps13
  go_wp2
  go_ret
  exact ⟨rfl, rfl⟩
end Go.Proofs.YtbcmlolaihnalacGreatDoor
