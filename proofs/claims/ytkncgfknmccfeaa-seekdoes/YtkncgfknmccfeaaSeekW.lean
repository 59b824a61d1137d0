/- Nothing is lost: the statement's own loop, walked. -/
import Derived.Test.YtkncgfknmccfeaaSeekH
namespace Go.Proofs.Ytkncgfknmccfeaa
open Go.RowKit

/-- what the loop keeps: what was answered and what is held is what came; what came since the last mark has no mark in it -/
structure WholeInv (m b : List UInt8) (i : Nat) (x all part : List UInt8) : Prop where
  came : all ++ m.take (Sk.held m x) = b.take i
  since : part ++ m.take (Sk.held m x) = x
  free : 0 < m.length → Sk.Free m x
  short : x.length ≤ i
theorem WholeInv.start (m b : List UInt8) : WholeInv m b 0 [] [] [] := by
  refine ⟨by rw [Sk.held_nil]; rfl, by rw [Sk.held_nil]; rfl, fun hm => ?_, Nat.le_refl _⟩
  rintro ⟨a, c, h⟩
  have := congrArg List.length h
  rw [List.length_append, List.length_append, List.length_nil] at this; omega
theorem WholeInv.no {m b : List UInt8} {i : Nat} {x all part : List UInt8} (h : WholeInv m b i x all part) (hi : i < b.length) (hf : Sk.found m (Sk.held m x) b[i] = false) :
    WholeInv m b (i + 1) (x ++ [b[i]]) (all ++ Sk.out m (Sk.held m x) b[i]) (part ++ Sk.out m (Sk.held m x) b[i]) ∧ Sk.after m (Sk.held m x) b[i] = Sk.held m (x ++ [b[i]]) := by
  have ha : Sk.after m (Sk.held m x) b[i] = Sk.held m (x ++ [b[i]]) := by rw [Sk.after_held, hf]; rfl
  have ho := Sk.out_after m x b[i] hf
  rw [ha] at ho
  refine ⟨⟨?_, ?_, fun hm => Sk.free_snoc (h.free hm) (fun hs => ?_), by rw [List.length_append]; exact Nat.succ_le_succ h.short⟩, ha⟩
  · rw [List.append_assoc, ho, ← List.append_assoc, h.came, ← Sk.take_snoc b i hi]
  · rw [List.append_assoc, ho, ← List.append_assoc, h.since]
  · rw [(Sk.found_iff m x b[i]).2 ⟨hm, hs⟩] at hf; exact absurd hf (by simp)
theorem WholeInv.yes {m b : List UInt8} {i : Nat} {x all part : List UInt8} (h : WholeInv m b i x all part) (hi : i < b.length) (hf : Sk.found m (Sk.held m x) b[i] = true) :
    WholeInv m b (i + 1) [] (all ++ Sk.out m (Sk.held m x) b[i] ++ m) [] ∧ Sk.after m (Sk.held m x) b[i] = Sk.held m [] ∧ Sk.Free m (part ++ Sk.out m (Sk.held m x) b[i]) ∧ 0 < m.length := by
  have hm := (Sk.found_fit hf).2
  have ho := Sk.out_found hf (Sk.held_le m x)
  rw [ho, List.append_nil, List.append_nil]
  refine ⟨⟨?_, by rw [Sk.held_nil]; rfl, (WholeInv.start m b).free, Nat.zero_le _⟩, by rw [Sk.after_held, hf, Sk.held_nil]; rfl, Sk.free_prefix (y := m.take (Sk.held m x)) (by rw [h.since]; exact h.free hm), hm⟩
  rw [Sk.held_nil, List.take_zero, List.append_nil]
  conv => lhs; rw [← (Sk.out_mark m x b[i] hf).1]
  rw [← List.append_assoc, h.came, ← Sk.take_snoc b i hi]
theorem WholeInv.bounds {m b : List UInt8} {i : Nat} {x all part : List UInt8} (h : WholeInv m b i x all part) : all.length ≤ i ∧ part.length ≤ i := by
  have h1 := congrArg List.length h.came
  have h2 := congrArg List.length h.since
  have h3 := h.short
  rw [List.length_append, List.length_take (i := i)] at h1
  rw [List.length_append] at h2
  omega

/-- two slices in different blocks -/
def Apart (a b : Option Addr) : Prop := ∀ x y, a = some x → b = some y → x.block ≠ y.block
theorem apart_none (b : Option Addr) : Apart none b := fun _ _ h => by simp at h
theorem apart_none' (a : Option Addr) : Apart a none := fun _ _ _ h => by simp at h
theorem Apart.symm {a b : Option Addr} (h : Apart a b) : Apart b a := fun x y hx hy e => h y x hy hx e.symm
/-- behind an append -/
theorem Apart.grown {a a' b : Option Addr} {w : World} (h : Apart a b) (hat : blockOf a' = blockOf a ∨ blockOf a' = some w.heap.size) (hb : ∀ y, b = some y → y.block < w.heap.size) : Apart a' b := by
  intro x y hx hy e
  subst hx; subst hy
  rcases hat with ha | ha
  · cases a with
    | none => simp [blockOf] at ha
    | some z => simp only [blockOf, Option.some.injEq] at ha; exact h z y rfl rfl (by omega)
  · simp only [blockOf, Option.some.injEq] at ha
    have := hb y rfl; omega
theorem OwnB.apart {w w' : World} {base t : Nat} {ao : Option Addr} {cap : Nat} {l : List UInt8} {b : Option Addr} (h : OwnB w base t ao cap l) (hg : w.grownBy w' (blockOf b)) (ha : Apart ao b) : OwnB w' base t ao cap l :=
  h.kept hg (fun a e => by
    cases b with
    | none => simp [blockOf]
    | some y => simp only [blockOf]; intro e2; injection e2 with e2; exact ha a y e rfl e2)
end Go.Proofs.Ytkncgfknmccfeaa
