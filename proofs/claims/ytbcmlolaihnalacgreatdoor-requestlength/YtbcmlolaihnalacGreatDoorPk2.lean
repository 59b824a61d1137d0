/- Small texts, one behind the other: PlainL, PlainN, Base, CsVis. -/
import Derived.Test.YtbcmlolaihnalacGreatDoorPk1
import Derived.WalkKit
import Derived.WalkSpells
import Derived.WalkLawsBesides
import Derived.Deep.QuietTactic
import Derived.BigQuiet
import Derived.Laws.IdiomStrings
import Derived.Lib.IndexBytes
import Derived.Lib.Strings
import Derived.Test.YtbcmlolaihnalacGreatDoorProg
/- Plain laws of lines in bytes, with no program in them: the line at the beginning of bytes, as the document's own answer has it. -/
namespace Go.Proofs.YtbcmlolaihnalacGreatDoor.Ln

/-- what is told of the line at the beginning of bytes: its text, how many bytes it has with its end, is there one, a code -/
structure Told where
  text : List UInt8
  size : Nat
  ended : Bool
  code : Nat
def open_ : Told := ⟨[], 0, false, 0⟩
def fails (i c : Nat) : Told := ⟨[], i, false, c⟩
/-- from the place i on, t being what is left there -/
def go (l : List UInt8) : Nat → List UInt8 → Told
  | _, [] => open_
  | i, c :: t =>
    if c = 13 then
      match t with
      | [] => open_
      | d :: _ => if d = 10 then ⟨l.take i, i + 2, true, 0⟩ else fails (i + 2) 2
    else if c = 10 then fails (i + 1) 2
    else if Ch.visible c.toNat = false then fails (i + 1) 3
    else if i = 200 then fails (i + 1) 4
    else go l (i + 1) t
def of (l : List UInt8) : Told := go l 0 l

theorem go_end (l : List UInt8) (i : Nat) (h : l.length ≤ i) : go l i (l.drop i) = open_ := by
  rw [List.drop_eq_nil_of_le h]; rfl
theorem go_at (l : List UInt8) (i : Nat) (h : i < l.length) : go l i (l.drop i) =
    if l[i] = 13 then
      (if h2 : i + 1 < l.length then (if l[i + 1] = 10 then ⟨l.take i, i + 2, true, 0⟩ else fails (i + 2) 2) else open_)
    else if l[i] = 10 then fails (i + 1) 2
    else if Ch.visible l[i].toNat = false then fails (i + 1) 3
    else if i = 200 then fails (i + 1) 4
    else go l (i + 1) (l.drop (i + 1)) := by
  rw [List.drop_eq_getElem_cons h]
  show (if l[i] = 13 then _ else _) = _
  by_cases h13 : l[i] = 13
  · rw [if_pos h13, if_pos h13]
    by_cases h2 : i + 1 < l.length
    · rw [dif_pos h2, List.drop_eq_getElem_cons h2]
    · rw [dif_neg h2, List.drop_eq_nil_of_le (by omega)]
  · rw [if_neg h13, if_neg h13]
end Go.Proofs.YtbcmlolaihnalacGreatDoor.Ln

/- Plain laws of lines that come byte by byte, with no program in them: what a reader keeps, what it answers, and that this is what is told of all that came since the last line's end. -/
namespace Go.Proofs.YtbcmlolaihnalacGreatDoor.Ln

/-- what a reader of lines keeps: what came of a line, did its CR come, a code -/
structure St where
  line : List UInt8
  ending : Bool
  code : Nat
def start : St := ⟨[], false, 0⟩
/-- the code of a byte behind what came -/
def fault (s : St) (c : UInt8) : Nat :=
  if s.ending = (c == 10) then (if c = 13 ∨ c = 10 then 0 else if Ch.visible c.toNat = false then 3 else if 200 ≤ s.line.length then 4 else 0) else 2
/-- behind a byte: what is kept -/
def next (s : St) (c : UInt8) : St :=
  if s.code ≠ 0 then s
  else if fault s c ≠ 0 then { s with code := fault s c }
  else if c = 10 then ⟨[], false, 0⟩
  else if c = 13 then { s with ending := true }
  else { s with line := s.line ++ [c] }
/-- the line that a byte ends -/
def text (s : St) (c : UInt8) : List UInt8 := if s.code = 0 ∧ fault s c = 0 ∧ c = 10 then s.line else []
/-- does a byte end a line? -/
def ends (s : St) (c : UInt8) : Bool := decide (s.code = 0 ∧ fault s c = 0 ∧ c = 10)
def begun (s : St) : Bool := s.ending || decide (0 < s.line.length)
/-- what came since the last line's end -/
def came (s : St) : List UInt8 := s.line ++ (if s.ending then [13] else [])
/-- what a reader that told no code keeps is so -/
structure Good (s : St) : Prop where
  seen : ∀ b ∈ s.line, Ch.visible b.toNat = true
  short : s.line.length ≤ 200
theorem Good.start : Good start := ⟨fun b h => by simp [Ln.start] at h, by simp [Ln.start]⟩
theorem not13 : Ch.visible (13 : UInt8).toNat = false := by decide
theorem not10 : Ch.visible (10 : UInt8).toNat = false := by decide
theorem next_good {s : St} {c : UInt8} (h : Good s) : Good (next s c) := by
  unfold next
  split
  · exact h
  · split
    · exact ⟨h.seen, h.short⟩
    · split
      · exact Good.start
      · split
        · exact ⟨h.seen, h.short⟩
        · rename_i _ hf h10 h13
          have hf : fault s c = 0 := by omega
          unfold fault at hf
          split at hf
          · split at hf
            · rename_i hc; rcases hc with e | e <;> contradiction
            · split at hf
              · omega
              · split at hf
                · omega
                · rename_i _ _ hv hl
                  refine ⟨fun b hb => ?_, by simp; omega⟩
                  simp at hb
                  rcases hb with hb | rfl
                  · exact h.seen b hb
                  · cases hh : Ch.visible (b.toNat : Int)
                    · exact absurd hh hv
                    · rfl
          · omega
/-- bytes of a line are passed by -/
theorem go_skip (l : List UInt8) (n : Nat) (hn : n ≤ l.length) (h2 : n ≤ 200) (hv : ∀ b ∈ l.take n, Ch.visible b.toNat = true) : of l = go l n (l.drop n) := by
  induction n with
  | zero => rfl
  | succ n ih =>
    have hlt : n < l.length := by omega
    have hm : l[n] ∈ l.take (n + 1) := by
      rw [List.take_succ_eq_append_getElem hlt]; exact List.mem_append_right _ (List.mem_singleton.2 rfl)
    have hx := hv _ hm
    rw [ih (by omega) (by omega) (fun b hb => hv b (by
      rw [List.take_succ_eq_append_getElem hlt]; exact List.mem_append_left _ hb)), go_at l n hlt]
    rw [if_neg (fun e => by rw [e, not13] at hx; cases hx), if_neg (fun e => by rw [e, not10] at hx; cases hx), if_neg (by rw [hx]; simp), if_neg (by omega)]
/-- what is told of all that came since the last line's end is what is answered -/
theorem of_came {s : St} (h : Good s) (hc : s.code = 0) (c : UInt8) :
    (of (came s ++ [c])).text = text s c ∧ (of (came s ++ [c])).ended = ends s c ∧ (of (came s ++ [c])).code = (next s c).code ∧ (ends s c = true → (of (came s ++ [c])).size = (came s).length + 1) := by
  have hn13 := not13
  have e : of (came s ++ [c]) = go (came s ++ [c]) s.line.length ((came s ++ [c]).drop s.line.length) := by
    refine go_skip _ _ (by unfold came; simp) h.short (fun b hb => ?_)
    unfold came at hb
    rw [List.append_assoc, List.take_left] at hb
    exact h.seen b hb
  rw [e]
  cases he : s.ending
  · have e2 : came s ++ [c] = s.line ++ [c] := by unfold came; rw [he]; simp
    rw [e2, List.drop_left]
    have e3 : came s = s.line := by unfold came; rw [he]; simp
    rw [e3]
    show _ ∧ _ ∧ _ ∧ _
    unfold go
    by_cases h13 : c = 13
    · subst h13
      have hf : fault s 13 = 0 := by unfold fault; rw [he]; rfl
      simp [text, ends, next, hf, hc, open_]
    · rw [if_neg h13]
      by_cases h10 : c = 10
      · subst h10
        have hf : fault s 10 = 2 := by unfold fault; rw [he]; rfl
        simp [text, ends, next, hf, hc, fails]
      · rw [if_neg h10]
        have hq : s.ending = (c == 10) := by rw [he]; exact (beq_eq_false_iff_ne.2 h10).symm
        have hno : ¬ (c = 13 ∨ c = 10) := by rintro (e | e) <;> contradiction
        by_cases hv : Ch.visible c.toNat = false
        · have hf : fault s c = 3 := by unfold fault; rw [if_pos hq, if_neg hno, if_pos hv]
          rw [if_pos hv]
          simp [text, ends, next, hf, hc, fails]
        · rw [if_neg hv]
          by_cases h2 : s.line.length = 200
          · have hf : fault s c = 4 := by unfold fault; rw [if_pos hq, if_neg hno, if_neg hv, if_pos (by omega)]
            rw [if_pos h2]
            simp [text, ends, next, hf, hc, fails]
          · have hs := h.short
            have hf : fault s c = 0 := by unfold fault; rw [if_pos hq, if_neg hno, if_neg hv, if_neg (by omega)]
            rw [if_neg h2]
            simp [text, ends, next, hf, hc, h10, h13, go, open_]
  · have e2 : came s ++ [c] = s.line ++ [13, c] := by unfold came; rw [he]; simp
    have e3 : (came s).length = s.line.length + 1 := by unfold came; rw [he]; simp
    rw [e2, List.drop_left, e3]
    unfold go
    rw [if_pos rfl]
    by_cases h10 : c = 10
    · subst h10
      have hf : fault s 10 = 0 := by unfold fault; rw [he]; rfl
      simp [text, ends, next, hf, hc]
    · have hf : fault s c = 2 := by
        unfold fault; rw [he, if_neg (by rw [beq_eq_false_iff_ne.2 h10]; simp)]
      simp [text, ends, next, hf, hc, h10, fails]
/-- what came grows by the byte, or a line ended -/
theorem came_next {s : St} {c : UInt8} (hc : s.code = 0) (hn : (next s c).code = 0) : came (next s c) = if ends s c then [] else came s ++ [c] := by
  unfold next at hn ⊢
  rw [if_neg (by omega)] at hn ⊢
  by_cases hf : fault s c = 0
  · rw [if_neg (by omega)] at hn ⊢
    by_cases h10 : c = 10
    · subst h10
      have : ends s 10 = true := by unfold ends; simp [hc, hf]
      rw [this]; rfl
    · have hE : ends s c = false := by unfold ends; simp [h10]
      rw [if_neg h10, hE]
      have he : s.ending = false := by
        unfold fault at hf
        cases hh : s.ending
        · rfl
        · rw [hh, if_neg (by rw [beq_eq_false_iff_ne.2 h10]; simp)] at hf; omega
      by_cases h13 : c = 13
      · subst h13
        rw [if_pos rfl]; unfold came; rw [he]; simp
      · rw [if_neg h13]; unfold came; simp [he]
  · rw [if_pos hf] at hn; exact absurd hn hf
theorem begun_came (s : St) : begun s = decide (0 < (came s).length) := by
  unfold begun came
  cases s.ending <;> simp
/-- with a code no line ends -/
theorem ends_code {s : St} {c : UInt8} (h : (next s c).code ≠ 0) : ends s c = false := by
  cases hE : ends s c
  · rfl
  · unfold ends at hE
    rw [decide_eq_true_eq] at hE
    obtain ⟨h0, hf, rfl⟩ := hE
    exact absurd (by unfold next; rw [if_neg (by omega), hf]; rfl) h
/-- behind a code it is told again -/
theorem again {s : St} (c : UInt8) (h : s.code ≠ 0) : next s c = s ∧ text s c = [] ∧ ends s c = false := by
  refine ⟨by unfold next; rw [if_pos h], by unfold text; rw [if_neg (fun e => h e.1)], by unfold ends; simp [h]⟩
end Go.Proofs.YtbcmlolaihnalacGreatDoor.Ln

/- Small things that every walk wants. -/
namespace Go.Proofs.YtbcmlolaihnalacGreatDoor
open Go.RowKit

theorem ret_bool {a b : Bool} (h : a = b) : Ending.returned (.bool a) = .returned (.bool b) := by rw [h]

theorem ret_int {k : IntKind} {a b : Int} (h : a = b) : Ending.returned (.int k a) = .returned (.int k b) := by rw [h]

theorem ret_str {a b : ByteArray} (h : a = b) : Ending.returned (.string a) = .returned (.string b) := by rw [h]

theorem ret_two {k : IntKind} {a : Int} {b : Bool} {p : Int × Bool} (h : p = (a, b)) : Ending.returned (.tuple #[.int k a, .bool b]) = .returned (.tuple #[.int k p.1, .bool p.2]) := by rw [h]

theorem results_tmp4 {fn : Func} {t u v x : Tmp} (h : fn.results = #[.tmp t, .tmp u, .tmp v, .tmp x]) (tmps : Array Value) (P : Program) (w : World) :
    (results fn tmps).run P w = .ok (.tuple #[tmps.getD t undef, tmps.getD u undef, tmps.getD v undef, tmps.getD x undef]) w := by
  simp [results, h]

theorem Hid.mk' {p : Prop} (h : p) : Hid p := h

theorem wrap_id {x : Int} (h0 : -9223372036854775808 ≤ x) (h1 : x ≤ 9223372036854775807) : IntKind.i64.wrap x = x := by rw [IntKind.wrap_i64]; omega

theorem wrap64_id {x : Int} (h0 : -9223372036854775808 ≤ x) (h1 : x ≤ 9223372036854775807) : wrap64 x = x := by unfold wrap64; omega

theorem byte_ne {a b : UInt8} (h : a ≠ b) : ((a.toNat : Int) != b.toNat) = true := by
  rw [bne_iff_ne]; intro e; exact h (UInt8.toNat_inj.1 (by omega))

theorem byte_eq {a b : UInt8} (h : a = b) : ((a.toNat : Int) != b.toNat) = false := by subst h; simp

theorem byte_ne' {a b : UInt8} (h : a ≠ b) : ((a.toNat : Int) == b.toNat) = false := by
  rw [beq_eq_false_iff_ne]; intro e; exact h (UInt8.toNat_inj.1 (by omega))

theorem then_ {w a b : World} (h : Below w.heap.size w a) (k : Below a.heap.size a b) : Below w.heap.size w b := h.trans (k.mono h.size)

theorem drewN_below {w a : World} (h : ∃ n, a = w.drewN n) : Below w.heap.size w a := by
  obtain ⟨n, rfl⟩ := h
  exact ⟨rfl, rfl, rfl, Nat.le_refl _, fun _ _ => rfl⟩

def strLen : Value → Nat | .string x => x.size | _ => 0

/-- a text and a code, as a value -/
def txVal (p : List UInt8 × Nat) : Value := .tuple #[.string ⟨p.1.toArray⟩, .int .i64 (p.2 : Int)]
theorem ret_tx {v : Value} {p q : List UInt8 × Nat} (hq : q = p) (h : v = txVal p) : Ending.returned v = .returned (txVal q) := by rw [h, hq]
theorem below_box {w : World} {o : Obj} {w' : World} (h : ∃ n, w' = (w.alloc o).drewN n) : Below w.heap.size w w' := by
  obtain ⟨n, rfl⟩ := h
  exact ((Below.refl _ _).alloc (Nat.le_refl _) _).trans ⟨rfl, rfl, rfl, Nat.le_refl _, fun _ _ => rfl⟩
end Go.Proofs.YtbcmlolaihnalacGreatDoor

/- Package chars, walked: visible. -/
namespace Go.Proofs.YtbcmlolaihnalacGreatDoor
open Go.RowKit

set_option maxHeartbeats 400000 in
theorem visible_any (c : Int) (w : World) :
    Calls Tryz.prog 68 #[.int .u8 c] w fun e w' => e = .returned (.bool (Ch.visible c)) ∧ w' = w := by
  by_cases h9 : c = 9
  · subst h9
    go_enter Tryz.func68, Tryz.ntmps68
    go_wp2
    go_ret
    exact ⟨ret_bool (by decide), rfl⟩
  · have h9' : (c == 9) = false := beq_eq_false_iff_ne.2 h9
    go_enter Tryz.func68, Tryz.ntmps68
    go_wp2
    all_goals go_ret
    all_goals refine ⟨ret_bool ?_, rfl⟩
    all_goals (unfold Ch.visible; rw [h9']; first | (rw [decide_eq_true (show 32 ≤ c by omega)]; simp) | (rw [decide_eq_false (show ¬ 32 ≤ c by omega)]; simp))
end Go.Proofs.YtbcmlolaihnalacGreatDoor
