/- SeekDoes: the ways that end at once; what one round comes to. -/
import Derived.Test.YtkncgfknmccfeaaSeekX
namespace Go.Proofs.Ytkncgfknmccfeaa
open Go.RowKit

theorem does_long1 (am ab ar : Option Addr) (n1 n2 n3 c1 c2 c3 : Nat) (w : World) (h : 60 < n1) :
    Calls Try.prog 3 #[.slice am n1 c1, .slice ab n2 c2, .slice ar n3 c3] w fun e w' => e = .returned (.bool true) ∧ Below w.heap.size w w' := by
  go_enter Try.func3, Try.ntmps3
  go_wp2_with fail
  refine (begun_any _).mono ?_
  rintro e w1 ⟨rfl, hb1⟩
  go_wp2
  go_ret
  exact ⟨rfl, hb1⟩
theorem does_long2 (am ab ar : Option Addr) (n1 n2 n3 c1 c2 c3 : Nat) (w : World) (h1 : n1 ≤ 60) (h : 300 < n2) :
    Calls Try.prog 3 #[.slice am n1 c1, .slice ab n2 c2, .slice ar n3 c3] w fun e w' => e = .returned (.bool true) ∧ Below w.heap.size w w' := by
  have t1 : decide ((n1 : Int) > 60) = false := by rw [decide_eq_false_iff_not]; omega
  go_enter Try.func3, Try.ntmps3
  go_wp2_with fail
  refine (begun_any _).mono ?_
  rintro e w1 ⟨rfl, hb1⟩
  go_wp2
  go_ret
  exact ⟨rfl, hb1⟩
theorem does_long3 (am ab ar : Option Addr) (n1 n2 n3 c1 c2 c3 : Nat) (w : World) (h1 : n1 ≤ 60) (h2 : n2 ≤ 300) (h : 100 < n3) :
    Calls Try.prog 3 #[.slice am n1 c1, .slice ab n2 c2, .slice ar n3 c3] w fun e w' => e = .returned (.bool true) ∧ Below w.heap.size w w' := by
  have t1 : decide ((n1 : Int) > 60) = false := by rw [decide_eq_false_iff_not]; omega
  have t2 : decide ((n2 : Int) > 300) = false := by rw [decide_eq_false_iff_not]; omega
  go_enter Try.func3, Try.ntmps3
  go_wp2_with fail
  refine (begun_any _).mono ?_
  rintro e w1 ⟨rfl, hb1⟩
  go_wp2
  go_ret
  exact ⟨rfl, hb1⟩

section
variable {w wr w' : World} {lo hi g : Nat} {m : List UInt8} {h : Nat} {l1 l2 : List UInt8} {a1 : Option Addr} {c1 : Nat} {a2 : Option Addr} {c2 : Nat}
theorem Two.drewN (T : Two w lo hi g m h l1 l2 a1 c1 a2 c2 wr) (n : Nat) : Two w lo hi g m h l1 l2 a1 c1 a2 c2 (wr.drewN n) :=
  ⟨T.one, T.two, T.apart, T.seek, T.below.trans ⟨rfl, rfl, rfl, Nat.le_refl _, fun _ _ => rfl⟩, T.size, T.lo_⟩
theorem Two.alloc (T : Two w lo hi g m h l1 l2 a1 c1 a2 c2 wr) (o : Obj) : Two w lo hi g m h l1 l2 a1 c1 a2 c2 (wr.alloc o) := by
  have hb : Below wr.heap.size wr (wr.alloc o) := (Below.refl _ _).alloc (Nat.le_refl _) o
  exact ⟨T.one.alloc o, T.two.alloc o, T.apart, T.seek.below hb T.size, T.below.alloc T.below.size o, by have := T.size; simp; omega, T.lo_⟩
end

/-- what is held, asked for again, is the end of what came -/
theorem same_rest {w w3 : World} {lo hi g : Nat} {m y : List UInt8} {h q : Nat} {aoy ao3 : Option Addr} {capy cap3 B : Nat} (T : Two w lo hi g m q y [] aoy capy none 0 w3) (hO : OwnB w3 B 5 ao3 cap3 (m.take h)) (hE : y.drop (y.length - h) = m.take h) (hm : h ≤ m.length) (hy : h ≤ y.length)
    (A : Option Addr) (C : Nat) (hC : C = capy - (y.length - h)) (hA : capy ≠ y.length - h → A = aoy.map (·.add (y.length - h))) :
    Calls Try.prog 7 #[.slice ao3 h cap3, .slice A h C] w3 fun e w' => e = .returned (.bool true) ∧ w' = w3 := by
  subst hC
  have hI := T.one.isB.cut (ao' := A) (y.length - h) y.length (by omega) (Nat.le_refl _) hA
  rw [List.take_of_length_le (by rw [List.length_drop]; omega)] at hI
  have := sameBytes_any w3 ao3 A cap3 (capy - (y.length - h)) h h (m.take h) (y.drop (y.length - h)) (by rw [List.length_take]; omega) (by rw [List.length_drop]; omega) hO.isB hI
  rw [hE, decide_eq_true rfl] at this
  exact this

/-- what was answered is that piece of what came -/
theorem same_out {w w4 : World} {B hi : Nat} {y : List UInt8} {c : UInt8} {o : List UInt8} {h r : Nat} {a4 : Addr} {ao5 : Option Addr} {cap4 cap5 : Nat} (hO : OwnB w4 B 5 ao5 cap5 o) (hT : OwnB w hi 5 (some a4) cap4 (y ++ [c])) (hE : o = ((y ++ [c]).drop (y.length - h)).take (h + 1 - r)) (hy : h ≤ y.length) (hr : r ≤ h + 1)
    (N C : Nat) (hN : N = h + 1 - r) (hC : C = cap4 - (y.length - h)) (hw : w.heap = w4.heap := by rfl) :
    Calls Try.prog 7 #[.slice ao5 o.length cap5, .slice (some (a4.add (y.length - h))) N C] w fun e w' => e = .returned (.bool true) ∧ w' = w := by
  subst hN; subst hC
  have hcap := hT.isB.1
  rw [List.length_append, List.length_singleton] at hcap
  have hI := hT.isB.cut (ao' := some (a4.add (y.length - h))) (y.length - h) (y.length + 1 - r) (by omega) (by simp) (fun _ => rfl)
  rw [show y.length + 1 - r - (y.length - h) = h + 1 - r by omega, ← hE] at hI
  have hl : o.length = h + 1 - r := by rw [hE, List.length_take, List.length_drop, List.length_append, List.length_singleton]; omega
  have := sameBytes_any w ao5 (some (a4.add (y.length - h))) cap5 (cap4 - (y.length - h)) o.length (h + 1 - r) o o rfl hl (hO.isB.move (fun a _ v j hv => by unfold World.cell? at hv ⊢; rw [hw]; exact hv)) hI
  rw [decide_eq_true rfl] at this
  exact this

/-- the last bytes of what came are the mark -/
theorem found_drop (m x : List UInt8) (c : UInt8) (hm : 0 < m.length) (hl : m.length ≤ x.length + 1) : ((x ++ [c]).drop (x.length + 1 - m.length) == m) = Sk.found m (Sk.held m x) c := by
  have hi := Sk.found_iff m x c
  have he := ends_iff m (x ++ [c]) m.length (Nat.le_refl _)
  rw [List.take_length] at he
  rw [show (x ++ [c]).length = x.length + 1 by simp] at he
  rw [Bool.eq_iff_iff, hi, beq_iff_eq, he]
  exact ⟨fun h => ⟨hm, hl, h⟩, fun h => h.2.2⟩
theorem found_short (m x : List UInt8) (c : UInt8) (hl : x.length + 1 < m.length) : Sk.found m (Sk.held m x) c = false := by
  rw [Bool.eq_false_iff]
  intro h
  have := ((Sk.found_iff m x c).1 h).2.length_le
  simp at this; omega
theorem found_nil (m x : List UInt8) (c : UInt8) (hl : m.length = 0) : Sk.found m (Sk.held m x) c = false := by
  rw [Bool.eq_false_iff]
  intro h
  have := (Sk.found_iff m x c).1 h
  omega
end Go.Proofs.Ytkncgfknmccfeaa
