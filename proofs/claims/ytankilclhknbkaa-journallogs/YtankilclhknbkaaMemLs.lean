/- Steps of a log (two numbers and bytes) in memory, in a row, of whatever program: as they are read. -/
import Derived.Test.YtankilclhknbkaaMemJ
namespace Go.Proofs.Ytankilclhknbkaa
open Go.RowKit

/-- a step of a log -/
structure Ls where
  op : Int
  n : Int
  bs : List UInt8
def lsC (u : Ls) (s : EnS) : List Value := [.int .i64 u.op, .int .i64 u.n, .slice s.bo u.bs.length s.bcap]
def lsV (us : List (Ls × EnS)) : List Value := us.flatMap fun x => lsC x.1 x.2
theorem lsV_append (a b : List (Ls × EnS)) : lsV (a ++ b) = lsV a ++ lsV b := by simp [lsV]
theorem lsV_one (u : Ls) (s : EnS) : lsV [(u, s)] = lsC u s := by simp [lsV]
theorem lsV_length (us : List (Ls × EnS)) : (lsV us).length = us.length * 3 := by
  induction us with
  | nil => rfl
  | cons p t ih =>
    have e : (lsC p.1 p.2).length = 3 := rfl
    simp only [lsV, List.flatMap_cons, List.length_append, List.length_cons] at ih ⊢
    rw [ih, e]; omega
theorem lsC_one (u : Ls) (s : EnS) : ∀ v ∈ lsC u s, v.oneCell' = true := by
  intro v hv
  simp only [lsC, List.mem_cons, List.not_mem_nil, or_false] at hv
  rcases hv with rfl | rfl | rfl <;> rfl
theorem lsV_at : ∀ (us : List (Ls × EnS)) (i : Nat) (hi : i < us.length) (j : Nat), j < 3 → (lsV us)[i * 3 + j]? = (lsC us[i].1 us[i].2)[j]?
  | p :: t, 0, _, j, hj => by
    show (lsC p.1 p.2 ++ lsV t)[0 * 3 + j]? = _
    rw [List.getElem?_append_left (by rw [show (lsC p.1 p.2).length = 3 from rfl]; omega), Nat.zero_mul, Nat.zero_add]
    rfl
  | p :: t, i + 1, hi, j, hj => by
    show (lsC p.1 p.2 ++ lsV t)[(i + 1) * 3 + j]? = _
    rw [List.getElem?_append_right (by rw [show (lsC p.1 p.2).length = 3 from rfl]; omega), show (lsC p.1 p.2).length = 3 from rfl, show (i + 1) * 3 + j - 3 = i * 3 + j by omega]
    exact lsV_at t i (by simpa using hi) j hj
/-- entries in a row, as they are read -/
def IsLs (w : World) (ao : Option Addr) (cap : Nat) (l : List Ls) : Prop := ∃ us : List (Ls × EnS), us.map (·.1) = l ∧ IsV w ao cap l.length (lsV us) ∧ ∀ x ∈ us, IsB w x.2.bo x.2.bcap x.1.bs
theorem IsLs.stay {w w' : World} {ao : Option Addr} {cap : Nat} {l : List Ls} (h : IsLs w ao cap l) (hb : Below w.heap.size w w') : IsLs w' ao cap l := by
  obtain ⟨us, h1, h2, h3⟩ := h
  exact ⟨us, h1, h2.stay hb, fun x hx => (h3 x hx).stay hb⟩
theorem IsLs.nil (w : World) : IsLs w none 0 [] := ⟨[], rfl, IsV.nil w, fun q hq => by cases hq⟩
/-- an entry's cells -/
theorem IsLs.at_ {w : World} {ao : Option Addr} {cap : Nat} {l : List Ls} (h : IsLs w ao cap l) (k : Nat) (hk : k < l.length) : ∃ (b o : Nat) (s : EnS), ao = some ⟨b, o, none⟩ ∧ w.cell? ⟨b, o + k * 3, none⟩ = some (.int .i64 l[k].op) ∧ w.cell? ⟨b, o + k * 3 + 1, none⟩ = some (.int .i64 l[k].n) ∧ w.cell? ⟨b, o + k * 3 + 2, none⟩ = some (.slice s.bo l[k].bs.length s.bcap) ∧ IsB w s.bo s.bcap l[k].bs := by
  obtain ⟨us, rfl, hv, hb⟩ := h
  have hk' : k < us.length := by simpa using hk
  obtain ⟨b, o, rfl, hc⟩ := hv.lit (by rw [lsV_length]; omega)
  have hq := hb _ (List.getElem_mem hk')
  have e0 := lsV_at us k hk' 0 (by decide)
  have e1 := lsV_at us k hk' 1 (by decide)
  have e2 := lsV_at us k hk' 2 (by decide)
  refine ⟨b, o, us[k].2, rfl, ?_, ?_, ?_, ?_⟩
  · rw [List.getElem_map]; exact hc _ _ (by rw [Nat.add_zero] at e0; exact e0)
  · rw [List.getElem_map, Nat.add_assoc]; exact hc _ _ e1
  · rw [List.getElem_map, Nat.add_assoc]; exact hc _ _ e2
  · rw [List.getElem_map]; exact hq
end Go.Proofs.Ytankilclhknbkaa
