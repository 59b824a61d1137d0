/- Package spool, walked: New. The statements' own: steps in memory, greatSteps, spoolBegun. -/
import Derived.Test.YtankilclhknbkaaDoorSqJ
namespace Go.Proofs.YtankilclhknbkaaDoor
open Go.RowKit

/-- a step that is asked of a spool -/
structure Stp where
  op : Int
  id : Int
  n : Int
  text : ByteArray
def stpC (s : Stp) : List Value := [.int .i64 s.op, .int .i64 s.id, .int .i64 s.n, .string s.text]
def stpV (l : List Stp) : List Value := l.flatMap stpC
theorem stpV_length (l : List Stp) : (stpV l).length = l.length * 4 := by
  induction l with
  | nil => rfl
  | cons p t ih =>
    have e : (stpC p).length = 4 := rfl
    simp only [stpV, List.flatMap_cons, List.length_append, List.length_cons] at ih ⊢
    rw [ih, e]; omega
theorem stpV_at : ∀ (l : List Stp) (i : Nat) (hi : i < l.length) (j : Nat), j < 4 → (stpV l)[i * 4 + j]? = (stpC l[i])[j]?
  | p :: t, 0, _, j, hj => by
    show (stpC p ++ stpV t)[0 * 4 + j]? = _
    rw [List.getElem?_append_left (by rw [show (stpC p).length = 4 from rfl]; omega), Nat.zero_mul, Nat.zero_add]
    rfl
  | p :: t, i + 1, hi, j, hj => by
    show (stpC p ++ stpV t)[(i + 1) * 4 + j]? = _
    rw [List.getElem?_append_right (by rw [show (stpC p).length = 4 from rfl]; omega), show (stpC p).length = 4 from rfl, show (i + 1) * 4 + j - 4 = i * 4 + j by omega]
    exact stpV_at t i (by simpa using hi) j hj
/-- a step's cells -/
theorem stp_at {w : World} {ao : Option Addr} {cap n : Nat} {l : List Stp} (h : IsV w ao cap n (stpV l)) (k : Nat) (hk : k < l.length) : ∃ b o, ao = some ⟨b, o, none⟩ ∧ w.cell? ⟨b, o + k * 4, none⟩ = some (.int .i64 l[k].op) ∧ w.cell? ⟨b, o + k * 4 + 1, none⟩ = some (.int .i64 l[k].id) ∧ w.cell? ⟨b, o + k * 4 + 2, none⟩ = some (.int .i64 l[k].n) ∧ w.cell? ⟨b, o + k * 4 + 3, none⟩ = some (.string l[k].text) := by
  obtain ⟨b, o, rfl, hc⟩ := h.lit (by rw [stpV_length]; omega)
  have e : ∀ j v, j < 4 → (stpC l[k])[j]? = some v → w.cell? ⟨b, o + k * 4 + j, none⟩ = some v := fun j v hj hv => by
    rw [Nat.add_assoc]; exact hc _ _ ((stpV_at l k hk j hj).trans hv)
  exact ⟨b, o, rfl, e 0 _ (by decide) rfl, e 1 _ (by decide) rfl, e 2 _ (by decide) rfl, e 3 _ (by decide) rfl⟩
/-- how many bytes the texts have -/
def stpN : List Stp → Nat
  | [] => 0
  | s :: t => s.text.size + stpN t
theorem stpN_append : ∀ a b : List Stp, stpN (a ++ b) = stpN a + stpN b
  | [], b => by simp [stpN]
  | u :: t, b => by rw [List.cons_append, stpN, stpN, stpN_append t b]; omega
theorem stpN_take (l : List Stp) (k : Nat) (h : k < l.length) : stpN (l.take (k + 1)) = stpN (l.take k) + l[k].text.size := by
  rw [List.take_succ_eq_append_getElem h, stpN_append]
  simp [stpN]
theorem stpN_le (l : List Stp) (k : Nat) : stpN (l.take k) ≤ stpN l := by
  conv => rhs; rw [← List.take_append_drop k l, stpN_append]
  omega
theorem stpN_bound : ∀ (l : List Stp), (∀ p ∈ l, p.text.size ≤ 140737488355328) → stpN l ≤ l.length * 140737488355328
  | [], _ => by simp [stpN]
  | s :: t, h => by
    have := stpN_bound t (fun p hp => h p (by simp [hp]))
    have := h s (by simp)
    rw [stpN, List.length_cons]; omega
theorem stpN_one (l : List Stp) (k : Nat) (h : k < l.length) : l[k].text.size ≤ stpN l := by
  have h1 := stpN_take l k h
  have h2 := stpN_le l (k + 1)
  omega
theorem newU_any (w : World) :
    Calls Tryd.prog 6 #[] w fun e w' => e = .returned (.pointer (some ⟨w.heap.size, 0, none⟩)) ∧ SpoolAt w' (fun k => w.heap.size ≤ k) w.heap.size Sp.new ∧ Below w.heap.size w w' := by
  have hbA := (Below.refl _ w).alloc (Nat.le_refl _) (.cells #[.slice none 0 0, .int .i64 0] 49)
  have HX : Hid (SpoolAt (w.alloc (.cells #[.slice none 0 0, .int .i64 0] 49)) (fun k => w.heap.size ≤ k) w.heap.size Sp.new) := ⟨none, 0, heap_alloc_new w _, Nat.le_refl _, UpO.nil _ _ _ _⟩
  have HB := Hid.mk' hbA
  clear hbA
  go_enter Tryd.func6, Tryd.ntmps6
  go_wp2
  go_ret
  exact ⟨rfl, HX.out, HB.out⟩
set_option maxHeartbeats 800000 in
theorem greatSteps_any (l : List Stp) (ao : Option Addr) (cap n : Nat) (w : World) (hl : IsV w ao cap n (stpV l)) (hn : l.length = n) (hz : ∀ p ∈ l, p.text.size ≤ 140737488355328) (hN : n ≤ 9223372036854775807) :
    Calls Tryd.prog 5 #[.slice ao n cap] w fun e w' => ∃ b : Bool, e = .returned (.bool b) ∧ (b = false → l.length ≤ 200 ∧ stpN l ≤ 20000) ∧ w' = w := by
  subst hn
  have H := Hid.mk' hl
  have hcap := hl.1
  clear hl
  by_cases h200 : 200 < l.length
  · have t200 : decide ((l.length : Int) > 200) = true := by rw [decide_eq_true_eq]; omega
    clear hz
    go_enter Tryd.func5, Tryd.ntmps5
    go_wp2
    go_loop [3, 4] (fun v t => ∃ (k : Nat) (z : Int), k ≤ l.length ∧ t = .int .i64 k ∧ v = .int .i64 z) (fun _ t => l.length - (intOf t).toNat)
    case atStart => exact ⟨0, 0, Nat.zero_le _, rfl, rfl⟩
    case round =>
      obtain ⟨k, z, hk, rfl, rfl⟩ := hrel
      by_cases hlt : k < l.length
      · obtain ⟨bb, oo, rfl, hc0, hc1, hc2, hc3⟩ := stp_at H.out k hlt
        have hlt' : (k : Int) < l.length := by omega
        generalize l[k] = p at *
        go_wp2
        go_round
        case rel => exact ⟨k + 1, _, by omega, by go_num, rfl⟩
        case measure => simp [intOf]; omega
      · obtain rfl : k = l.length := by omega
        go_wp2
        go_ret
        exact Or.inr ⟨rfl, rfl⟩
  · have t200 : decide ((l.length : Int) > 200) = false := by rw [decide_eq_false_iff_not]; omega
    have hb := stpN_bound l hz
    clear hz
    go_enter Tryd.func5, Tryd.ntmps5
    go_wp2
    go_loop [3, 4] (fun v t => ∃ k : Nat, k ≤ l.length ∧ t = .int .i64 k ∧ v = .int .i64 (stpN (l.take k) : Int)) (fun _ t => l.length - (intOf t).toNat)
    case atStart => exact ⟨0, Nat.zero_le _, rfl, rfl⟩
    case round =>
      obtain ⟨k, hk, rfl, rfl⟩ := hrel
      have hu := stpN_le l k
      by_cases hlt : k < l.length
      · obtain ⟨bb, oo, rfl, hc0, hc1, hc2, hc3⟩ := stp_at H.out k hlt
        have hlt' : (k : Int) < l.length := by omega
        have HT : Hid (stpN (l.take (k + 1)) = stpN (l.take k) + l[k].text.size) := stpN_take l k hlt
        have hone := stpN_one l k hlt
        generalize l[k] = p at *
        generalize stpN (l.take k) = q at *
        go_wp2
        go_round
        case rel => exact ⟨k + 1, by omega, by go_num, by rw [HT.out]; go_num⟩
        case measure => simp [intOf]; omega
      · obtain rfl : k = l.length := by omega
        rw [List.take_length] at hu ⊢
        by_cases hg : 20000 < stpN l
        · have tg : decide ((stpN l : Int) > 20000) = true := by rw [decide_eq_true_eq]; omega
          go_wp2
          go_ret
          exact Or.inr ⟨rfl, rfl⟩
        · have tg : decide ((stpN l : Int) > 20000) = false := by rw [decide_eq_false_iff_not]; omega
          go_wp2
          go_ret
          exact Or.inl ⟨rfl, ⟨by omega, by omega⟩, rfl⟩
end Go.Proofs.YtankilclhknbkaaDoor
