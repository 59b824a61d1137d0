/- Plain laws of requests of a stream: what all bytes bring, step by step as the document's own answer goes. -/
import Derived.Test.YtkafbifogdoneacGreatDoorPk4
namespace Go.Proofs.YtkafbifogdoneacGreatDoor
theorem Ln.go_text_200 (l : List UInt8) : ∀ (t : List UInt8) (i : Nat), i ≤ 200 → (Ln.go l i t).text.length ≤ 200
  | [], i, _ => Nat.zero_le _
  | c :: t, i, hi => by
    unfold Ln.go
    split
    · split
      · exact Nat.zero_le _
      · split
        · show (l.take i).length ≤ 200
          rw [List.length_take]; omega
        · exact Nat.zero_le _
    · split
      · exact Nat.zero_le _
      · split
        · exact Nat.zero_le _
        · split
          · exact Nat.zero_le _
          · exact Ln.go_text_200 l t (i + 1) (by omega)
theorem Ln.of_text_200 (l : List UInt8) : (Ln.of l).text.length ≤ 200 := Ln.go_text_200 l l 0 (by omega)
theorem Ck.trail_used : ∀ (f : Nat) (l : List UInt8) (n : Nat), (Ck.trail f l n).used ≤ l.length
  | 0, _, _ => Nat.zero_le _
  | f + 1, l, n => by
    have hl := Ln.of_le l
    unfold Ck.trail
    split
    · exact hl
    · split
      · exact hl
      · split
        · exact hl
        · split
          · exact hl
          · have := Ck.trail_used f (l.drop (Ln.of l).size) (n + 1)
            rw [List.length_drop] at this
            show (Ln.of l).size + (Ck.trail f (l.drop (Ln.of l).size) (n + 1)).used ≤ l.length
            omega
theorem Ck.go_used : ∀ (f : Nat) (l : List UInt8) (n : Nat), (Ck.go f l n).used ≤ l.length
  | 0, _, _ => Nat.zero_le _
  | f + 1, l, n => by
    have hl := Ln.of_le l
    unfold Ck.go
    split
    · exact hl
    · split
      · exact hl
      · split
        · exact hl
        · split
          · have := Ck.trail_used (f + 1) (l.drop (Ln.of l).size) 0
            rw [List.length_drop] at this
            show (Ln.of l).size + (Ck.trail (f + 1) (l.drop (Ln.of l).size) 0).used ≤ l.length
            omega
          · have hd : (l.drop (Ln.of l).size).length = l.length - (Ln.of l).size := List.length_drop
            simp only
            split
            · show (Ln.of l).size + (l.drop (Ln.of l).size).length ≤ l.length
              omega
            · rename_i hk
              have he := Ln.of_le ((l.drop (Ln.of l).size).drop (Ck.size (Ln.of l).text).1.toNat)
              rw [List.length_drop] at he
              split
              · show (Ln.of l).size + (Ck.size (Ln.of l).text).1.toNat + (Ln.of ((l.drop (Ln.of l).size).drop (Ck.size (Ln.of l).text).1.toNat)).size ≤ l.length
                omega
              · split
                · show (Ln.of l).size + (Ck.size (Ln.of l).text).1.toNat + (Ln.of ((l.drop (Ln.of l).size).drop (Ck.size (Ln.of l).text).1.toNat)).size ≤ l.length
                  omega
                · have hr := Ck.go_used f (((l.drop (Ln.of l).size).drop (Ck.size (Ln.of l).text).1.toNat).drop (Ln.of ((l.drop (Ln.of l).size).drop (Ck.size (Ln.of l).text).1.toNat)).size) (n + (Ck.size (Ln.of l).text).1.toNat)
                  rw [List.length_drop, List.length_drop] at hr
                  show (Ln.of l).size + (Ck.size (Ln.of l).text).1.toNat + (Ln.of ((l.drop (Ln.of l).size).drop (Ck.size (Ln.of l).text).1.toNat)).size + (Ck.go f _ _).used ≤ l.length
                  omega
theorem Ck.used_of (l : List UInt8) : (Ck.of l).used ≤ l.length := Ck.go_used _ l 0
end Go.Proofs.YtkafbifogdoneacGreatDoor
namespace Go.Proofs.YtkafbifogdoneacGreatDoor.Rq
theorem first_code {t : List UInt8} {c : Nat} (h : first t = .inl c) : c ≠ 0 := by
  unfold first at h
  split at h
  · split at h
    · injection h with h; omega
    · split at h
      · injection h with h; omega
      · split at h
        · cases h
        · split at h
          · cases h
          · injection h with h; omega
  · injection h with h; omega
theorem HGood.more {h : Hd} (hg : HGood h) (t : List UInt8) (ht : t.length ≤ 200) (h16 : h.fields.length ≠ 16) : HGood { h with fields := h.fields ++ [((Fd.of t).name, (Fd.of t).value)] } := by
  have := Fd.of_length t
  refine ⟨hg.method, hg.target, hg.minor, ?_, fun f hf => ?_⟩
  · have := hg.many
    show (h.fields ++ [((Fd.of t).name, (Fd.of t).value)]).length ≤ 16
    rw [List.length_append]; simp; omega
  · rcases List.mem_append.1 hf with hf | hf
    · exact hg.fields f hf
    · simp at hf; subst hf; exact ⟨Nat.le_trans this.1 ht, Nat.le_trans this.2 ht⟩

/-- behind a body: its code, is it over, what follows -/
def rest (f : Nat) (r : List UInt8) (over : Bool) (c : Nat) : List Ev × Bool :=
  if c ≠ 0 then ([.fail c], false) else if over = false then ([], true) else (.fin :: (go f r).1, (go f r).2)
/-- behind a head: its body -/
def goB (f : Nat) (h : Hd) (r : List UInt8) : List Ev × Bool :=
  match len h with
  | .inl c => ([.fail c], false)
  | .inr k =>
    if 0 ≤ k then
      (if k.toNat ≤ r.length then (.head { h with length := k } :: some_ (r.take k.toNat) ++ (rest f (r.drop k.toNat) true 0).1, (rest f (r.drop k.toNat) true 0).2)
       else (.head { h with length := k } :: some_ r ++ (rest f [] false 0).1, (rest f [] false 0).2))
    else (.head { h with length := k } :: some_ (Ck.of r).body ++ (rest f (r.drop (Ck.of r).used) (Ck.of r).over (Ck.of r).code).1, (rest f (r.drop (Ck.of r).used) (Ck.of r).over (Ck.of r).code).2)
/-- behind a first line -/
def goH (f : Nat) (h : Hd) : Fs → List Ev × Bool
  | .fail c => ([.fail c], false)
  | .open_ => ([], true)
  | .ok fs r => goB f { h with fields := fs } r
theorem len_code {h : Hd} {c : Nat} (e : len h = .inl c) : c ≠ 0 := by
  unfold len at e
  split at e
  · injection e with e; omega
  · split at e
    · split at e
      · injection e with e; omega
      · split at e
        · injection e with e; omega
        · cases e
    · split at e
      · rename_i d hd
        injection e with e
        subst e
        have key : ∀ (f : List UInt8) (l : List (List UInt8)) (n : Int) (c : Nat), sizes f n l = .inl c → c ≠ 0 := by
          intro f l
          induction l with
          | nil => intro n c e; cases e
          | cons v t ih =>
            intro n c e
            unfold sizes at e
            split at e
            · injection e with e; omega
            · split at e
              · injection e with e; omega
              · exact ih _ _ e
        exact key _ _ _ _ hd
      · split at e
        · injection e with e; omega
        · cases e
theorem goH_fields (f : Nat) (h : Hd) (x : List Fl) (F : Fs) : goH f { h with fields := x } F = goH f h F := by cases F <;> rfl
theorem go_code {f : Nat} {l : List UInt8} (h : (Ln.of l).code ≠ 0) : go (f + 1) l = ([.fail (Ln.of l).code], false) := by rw [go, if_pos h]
theorem go_open {f : Nat} {l : List UInt8} (h : (Ln.of l).code = 0) (e : (Ln.of l).ended = false) : go (f + 1) l = ([], decide (l ≠ [])) := by rw [go, if_neg (by omega), if_pos e]
theorem go_empty {f : Nat} {l : List UInt8} (h : (Ln.of l).code = 0) (e : (Ln.of l).ended = true) (t : (Ln.of l).text = []) : go (f + 1) l = go f (l.drop (Ln.of l).size) := by rw [go, if_neg (by omega), if_neg (by rw [e]; simp), if_pos t]
theorem go_bad {f : Nat} {l : List UInt8} {c : Nat} (h : (Ln.of l).code = 0) (e : (Ln.of l).ended = true) (t : (Ln.of l).text ≠ []) (k : first (Ln.of l).text = .inl c) : go (f + 1) l = ([.fail c], false) := by
  rw [go, if_neg (by omega), if_neg (by rw [e]; simp), if_neg t, k]
theorem go_first {f : Nat} {l : List UInt8} {d : Hd} (h : (Ln.of l).code = 0) (e : (Ln.of l).ended = true) (t : (Ln.of l).text ≠ []) (k : first (Ln.of l).text = .inr d) : go (f + 1) l = goH f d (flds (f + 1) (l.drop (Ln.of l).size) []) := by
  rw [go, if_neg (by omega), if_neg (by rw [e]; simp), if_neg t, k]
  cases flds (f + 1) (l.drop (Ln.of l).size) [] with
  | fail c => rfl
  | open_ => rfl
  | ok fs r =>
    show _ = goB f { d with fields := fs } r
    unfold goB
    dsimp only
    generalize len { method := d.method, target := d.target, minor := d.minor, fields := fs, length := d.length } = L
    cases L with
    | inl c => rfl
    | inr k =>
      simp only [rest]
      by_cases h1 : 0 ≤ k
      · rw [if_pos h1, if_pos h1]
        by_cases h2 : k.toNat ≤ r.length
        · rw [if_pos h2, if_pos h2]; simp
        · rw [if_neg h2, if_neg h2]; simp
      · rw [if_neg h1, if_neg h1]
        by_cases h2 : (Ck.of r).code = 0
        · rw [if_neg (by omega)]
          by_cases h3 : (Ck.of r).over = false
          · rw [if_pos h3]; simp [h2, h3]
          · rw [if_neg h3]
            have h3' : (Ck.of r).over = true := by simpa using h3
            simp [h2, h3']
        · rw [if_pos h2]; simp [h2]
theorem flds_code {f : Nat} {l : List UInt8} {fs : List Fl} (h : (Ln.of l).code ≠ 0) : flds (f + 1) l fs = .fail (Ln.of l).code := by rw [flds, if_pos h]
theorem flds_open {f : Nat} {l : List UInt8} {fs : List Fl} (h : (Ln.of l).code = 0) (e : (Ln.of l).ended = false) : flds (f + 1) l fs = .open_ := by rw [flds, if_neg (by omega), if_pos e]
theorem flds_end {f : Nat} {l : List UInt8} {fs : List Fl} (h : (Ln.of l).code = 0) (e : (Ln.of l).ended = true) (t : (Ln.of l).text = []) : flds (f + 1) l fs = .ok fs (l.drop (Ln.of l).size) := by rw [flds, if_neg (by omega), if_neg (by rw [e]; simp), if_pos t]
theorem flds_many {f : Nat} {l : List UInt8} {fs : List Fl} (h : (Ln.of l).code = 0) (e : (Ln.of l).ended = true) (t : (Ln.of l).text ≠ []) (m : fs.length = 16) : flds (f + 1) l fs = .fail 8 := by rw [flds, if_neg (by omega), if_neg (by rw [e]; simp), if_neg t, if_pos m]
theorem flds_bad {f : Nat} {l : List UInt8} {fs : List Fl} (h : (Ln.of l).code = 0) (e : (Ln.of l).ended = true) (t : (Ln.of l).text ≠ []) (m : fs.length ≠ 16) (k : (Fd.of (Ln.of l).text).code ≠ 0) : flds (f + 1) l fs = .fail (Fd.of (Ln.of l).text).code := by rw [flds, if_neg (by omega), if_neg (by rw [e]; simp), if_neg t, if_neg m, if_pos k]
theorem flds_more {f : Nat} {l : List UInt8} {fs : List Fl} (h : (Ln.of l).code = 0) (e : (Ln.of l).ended = true) (t : (Ln.of l).text ≠ []) (m : fs.length ≠ 16) (k : (Fd.of (Ln.of l).text).code = 0) : flds (f + 1) l fs = flds f (l.drop (Ln.of l).size) (fs ++ [((Fd.of (Ln.of l).text).name, (Fd.of (Ln.of l).text).value)]) := by rw [flds, if_neg (by omega), if_neg (by rw [e]; simp), if_neg t, if_neg m, if_neg (by omega)]
end Go.Proofs.YtkafbifogdoneacGreatDoor.Rq
