/- The document's own answer, walked: StatusWord. -/
import Derived.Test.YtjhbiipbmlpgoaaDoorPk1
import Derived.Test.YtjhbiipbmlpgoaaDoorBase
import Derived.Test.YtjhbiipbmlpgoaaDoorMemK
import Derived.Test.YtjhbiipbmlpgoaaDoorProg
namespace Go.Proofs.YtjhbiipbmlpgoaaDoor
open Go.RowKit

theorem tab_at (W : World) : ∀ k (hk : k < 11), ((W.alloc (.cells #[.int .i64 200, .int .i64 201, .int .i64 204, .int .i64 400, .int .i64 404, .int .i64 405, .int .i64 409, .int .i64 412, .int .i64 413, .int .i64 415, .int .i64 507] 3)).alloc (.cells #[.string ⟨#[79, 75]⟩, .string ⟨#[67, 114, 101, 97, 116, 101, 100]⟩, .string ⟨#[78, 111, 32, 67, 111, 110, 116, 101, 110, 116]⟩, .string ⟨#[66, 97, 100, 32, 82, 101, 113, 117, 101, 115, 116]⟩, .string ⟨#[78, 111, 116, 32, 70, 111, 117, 110, 100]⟩, .string ⟨#[77, 101, 116, 104, 111, 100, 32, 78, 111, 116, 32, 65, 108, 108, 111, 119, 101, 100]⟩, .string ⟨#[67, 111, 110, 102, 108, 105, 99, 116]⟩, .string ⟨#[80, 114, 101, 99, 111, 110, 100, 105, 116, 105, 111, 110, 32, 70, 97, 105, 108, 101, 100]⟩, .string ⟨#[67, 111, 110, 116, 101, 110, 116, 32, 84, 111, 111, 32, 76, 97, 114, 103, 101]⟩, .string ⟨#[85, 110, 115, 117, 112, 112, 111, 114, 116, 101, 100, 32, 77, 101, 100, 105, 97, 32, 84, 121, 112, 101]⟩, .string ⟨#[73, 110, 115, 117, 102, 102, 105, 99, 105, 101, 110, 116, 32, 83, 116, 111, 114, 97, 103, 101]⟩] 9)).cell? ⟨W.heap.size, k, none⟩ = some (.int .i64 (Rp.tab[k]'(by simpa [Rp.tab] using hk)).1) ∧ ((W.alloc (.cells #[.int .i64 200, .int .i64 201, .int .i64 204, .int .i64 400, .int .i64 404, .int .i64 405, .int .i64 409, .int .i64 412, .int .i64 413, .int .i64 415, .int .i64 507] 3)).alloc (.cells #[.string ⟨#[79, 75]⟩, .string ⟨#[67, 114, 101, 97, 116, 101, 100]⟩, .string ⟨#[78, 111, 32, 67, 111, 110, 116, 101, 110, 116]⟩, .string ⟨#[66, 97, 100, 32, 82, 101, 113, 117, 101, 115, 116]⟩, .string ⟨#[78, 111, 116, 32, 70, 111, 117, 110, 100]⟩, .string ⟨#[77, 101, 116, 104, 111, 100, 32, 78, 111, 116, 32, 65, 108, 108, 111, 119, 101, 100]⟩, .string ⟨#[67, 111, 110, 102, 108, 105, 99, 116]⟩, .string ⟨#[80, 114, 101, 99, 111, 110, 100, 105, 116, 105, 111, 110, 32, 70, 97, 105, 108, 101, 100]⟩, .string ⟨#[67, 111, 110, 116, 101, 110, 116, 32, 84, 111, 111, 32, 76, 97, 114, 103, 101]⟩, .string ⟨#[85, 110, 115, 117, 112, 112, 111, 114, 116, 101, 100, 32, 77, 101, 100, 105, 97, 32, 84, 121, 112, 101]⟩, .string ⟨#[73, 110, 115, 117, 102, 102, 105, 99, 105, 101, 110, 116, 32, 83, 116, 111, 114, 97, 103, 101]⟩] 9)).cell? ⟨W.heap.size + 1, k, none⟩ = some (.string ⟨(Rp.tab[k]'(by simpa [Rp.tab] using hk)).2.toArray⟩) := by
  intro k hk
  have h1 : ((W.alloc (.cells #[.int .i64 200, .int .i64 201, .int .i64 204, .int .i64 400, .int .i64 404, .int .i64 405, .int .i64 409, .int .i64 412, .int .i64 413, .int .i64 415, .int .i64 507] 3)).alloc (.cells #[.string ⟨#[79, 75]⟩, .string ⟨#[67, 114, 101, 97, 116, 101, 100]⟩, .string ⟨#[78, 111, 32, 67, 111, 110, 116, 101, 110, 116]⟩, .string ⟨#[66, 97, 100, 32, 82, 101, 113, 117, 101, 115, 116]⟩, .string ⟨#[78, 111, 116, 32, 70, 111, 117, 110, 100]⟩, .string ⟨#[77, 101, 116, 104, 111, 100, 32, 78, 111, 116, 32, 65, 108, 108, 111, 119, 101, 100]⟩, .string ⟨#[67, 111, 110, 102, 108, 105, 99, 116]⟩, .string ⟨#[80, 114, 101, 99, 111, 110, 100, 105, 116, 105, 111, 110, 32, 70, 97, 105, 108, 101, 100]⟩, .string ⟨#[67, 111, 110, 116, 101, 110, 116, 32, 84, 111, 111, 32, 76, 97, 114, 103, 101]⟩, .string ⟨#[85, 110, 115, 117, 112, 112, 111, 114, 116, 101, 100, 32, 77, 101, 100, 105, 97, 32, 84, 121, 112, 101]⟩, .string ⟨#[73, 110, 115, 117, 102, 102, 105, 99, 105, 101, 110, 116, 32, 83, 116, 111, 114, 97, 103, 101]⟩] 9)).cell? ⟨W.heap.size, k, none⟩ = (#[.int .i64 200, .int .i64 201, .int .i64 204, .int .i64 400, .int .i64 404, .int .i64 405, .int .i64 409, .int .i64 412, .int .i64 413, .int .i64 415, .int .i64 507] : Array Value)[k]? := by
    rw [((Below.refl _ (W.alloc (.cells #[.int .i64 200, .int .i64 201, .int .i64 204, .int .i64 400, .int .i64 404, .int .i64 405, .int .i64 409, .int .i64 412, .int .i64 413, .int .i64 415, .int .i64 507] 3))).alloc (Nat.le_refl _) _).cell (p := ⟨W.heap.size, k, none⟩) (by simp)]
    exact World.cell?_alloc_mark W _ _ _ k
  have h2 : ((W.alloc (.cells #[.int .i64 200, .int .i64 201, .int .i64 204, .int .i64 400, .int .i64 404, .int .i64 405, .int .i64 409, .int .i64 412, .int .i64 413, .int .i64 415, .int .i64 507] 3)).alloc (.cells #[.string ⟨#[79, 75]⟩, .string ⟨#[67, 114, 101, 97, 116, 101, 100]⟩, .string ⟨#[78, 111, 32, 67, 111, 110, 116, 101, 110, 116]⟩, .string ⟨#[66, 97, 100, 32, 82, 101, 113, 117, 101, 115, 116]⟩, .string ⟨#[78, 111, 116, 32, 70, 111, 117, 110, 100]⟩, .string ⟨#[77, 101, 116, 104, 111, 100, 32, 78, 111, 116, 32, 65, 108, 108, 111, 119, 101, 100]⟩, .string ⟨#[67, 111, 110, 102, 108, 105, 99, 116]⟩, .string ⟨#[80, 114, 101, 99, 111, 110, 100, 105, 116, 105, 111, 110, 32, 70, 97, 105, 108, 101, 100]⟩, .string ⟨#[67, 111, 110, 116, 101, 110, 116, 32, 84, 111, 111, 32, 76, 97, 114, 103, 101]⟩, .string ⟨#[85, 110, 115, 117, 112, 112, 111, 114, 116, 101, 100, 32, 77, 101, 100, 105, 97, 32, 84, 121, 112, 101]⟩, .string ⟨#[73, 110, 115, 117, 102, 102, 105, 99, 105, 101, 110, 116, 32, 83, 116, 111, 114, 97, 103, 101]⟩] 9)).cell? ⟨W.heap.size + 1, k, none⟩ = (#[.string ⟨#[79, 75]⟩, .string ⟨#[67, 114, 101, 97, 116, 101, 100]⟩, .string ⟨#[78, 111, 32, 67, 111, 110, 116, 101, 110, 116]⟩, .string ⟨#[66, 97, 100, 32, 82, 101, 113, 117, 101, 115, 116]⟩, .string ⟨#[78, 111, 116, 32, 70, 111, 117, 110, 100]⟩, .string ⟨#[77, 101, 116, 104, 111, 100, 32, 78, 111, 116, 32, 65, 108, 108, 111, 119, 101, 100]⟩, .string ⟨#[67, 111, 110, 102, 108, 105, 99, 116]⟩, .string ⟨#[80, 114, 101, 99, 111, 110, 100, 105, 116, 105, 111, 110, 32, 70, 97, 105, 108, 101, 100]⟩, .string ⟨#[67, 111, 110, 116, 101, 110, 116, 32, 84, 111, 111, 32, 76, 97, 114, 103, 101]⟩, .string ⟨#[85, 110, 115, 117, 112, 112, 111, 114, 116, 101, 100, 32, 77, 101, 100, 105, 97, 32, 84, 121, 112, 101]⟩, .string ⟨#[73, 110, 115, 117, 102, 102, 105, 99, 105, 101, 110, 116, 32, 83, 116, 111, 114, 97, 103, 101]⟩] : Array Value)[k]? := by
    have := World.cell?_alloc_mark (W.alloc (.cells #[.int .i64 200, .int .i64 201, .int .i64 204, .int .i64 400, .int .i64 404, .int .i64 405, .int .i64 409, .int .i64 412, .int .i64 413, .int .i64 415, .int .i64 507] 3)) #[.string ⟨#[79, 75]⟩, .string ⟨#[67, 114, 101, 97, 116, 101, 100]⟩, .string ⟨#[78, 111, 32, 67, 111, 110, 116, 101, 110, 116]⟩, .string ⟨#[66, 97, 100, 32, 82, 101, 113, 117, 101, 115, 116]⟩, .string ⟨#[78, 111, 116, 32, 70, 111, 117, 110, 100]⟩, .string ⟨#[77, 101, 116, 104, 111, 100, 32, 78, 111, 116, 32, 65, 108, 108, 111, 119, 101, 100]⟩, .string ⟨#[67, 111, 110, 102, 108, 105, 99, 116]⟩, .string ⟨#[80, 114, 101, 99, 111, 110, 100, 105, 116, 105, 111, 110, 32, 70, 97, 105, 108, 101, 100]⟩, .string ⟨#[67, 111, 110, 116, 101, 110, 116, 32, 84, 111, 111, 32, 76, 97, 114, 103, 101]⟩, .string ⟨#[85, 110, 115, 117, 112, 112, 111, 114, 116, 101, 100, 32, 77, 101, 100, 105, 97, 32, 84, 121, 112, 101]⟩, .string ⟨#[73, 110, 115, 117, 102, 102, 105, 99, 105, 101, 110, 116, 32, 83, 116, 111, 114, 97, 103, 101]⟩] 9 (0, 0) k
    rw [World.size_alloc] at this
    exact this
  rw [h1, h2]
  match k, hk with
  | 0, _ => exact ⟨rfl, rfl⟩
  | 1, _ => exact ⟨rfl, rfl⟩
  | 2, _ => exact ⟨rfl, rfl⟩
  | 3, _ => exact ⟨rfl, rfl⟩
  | 4, _ => exact ⟨rfl, rfl⟩
  | 5, _ => exact ⟨rfl, rfl⟩
  | 6, _ => exact ⟨rfl, rfl⟩
  | 7, _ => exact ⟨rfl, rfl⟩
  | 8, _ => exact ⟨rfl, rfl⟩
  | 9, _ => exact ⟨rfl, rfl⟩
  | 10, _ => exact ⟨rfl, rfl⟩
set_option maxHeartbeats 1600000 in
theorem statusWord_any (n : Int) (w : World) :
    Calls Tryd.prog 11 #[.int .i64 n] w fun e w' => e = .returned (.string ⟨(Rp.word n).toArray⟩) ∧ Below w.heap.size w w' := by
  have HT := Hid.mk' (tab_at w)
  have HB : Hid (Below w.heap.size w ((w.alloc (.cells #[.int .i64 200, .int .i64 201, .int .i64 204, .int .i64 400, .int .i64 404, .int .i64 405, .int .i64 409, .int .i64 412, .int .i64 413, .int .i64 415, .int .i64 507] 3)).alloc (.cells #[.string ⟨#[79, 75]⟩, .string ⟨#[67, 114, 101, 97, 116, 101, 100]⟩, .string ⟨#[78, 111, 32, 67, 111, 110, 116, 101, 110, 116]⟩, .string ⟨#[66, 97, 100, 32, 82, 101, 113, 117, 101, 115, 116]⟩, .string ⟨#[78, 111, 116, 32, 70, 111, 117, 110, 100]⟩, .string ⟨#[77, 101, 116, 104, 111, 100, 32, 78, 111, 116, 32, 65, 108, 108, 111, 119, 101, 100]⟩, .string ⟨#[67, 111, 110, 102, 108, 105, 99, 116]⟩, .string ⟨#[80, 114, 101, 99, 111, 110, 100, 105, 116, 105, 111, 110, 32, 70, 97, 105, 108, 101, 100]⟩, .string ⟨#[67, 111, 110, 116, 101, 110, 116, 32, 84, 111, 111, 32, 76, 97, 114, 103, 101]⟩, .string ⟨#[85, 110, 115, 117, 112, 112, 111, 114, 116, 101, 100, 32, 77, 101, 100, 105, 97, 32, 84, 121, 112, 101]⟩, .string ⟨#[73, 110, 115, 117, 102, 102, 105, 99, 105, 101, 110, 116, 32, 83, 116, 111, 114, 97, 103, 101]⟩] 9))) := ((Below.refl _ _).alloc (Nat.le_refl _) _).alloc (by simp) _
  have hlen : Rp.tab.length = 11 := rfl
  have HLn := Hid.mk' hlen
  clear hlen
  go_enter Tryd.func11, Tryd.ntmps11
  go_wp2
  generalize ((w.alloc (.cells #[.int .i64 200, .int .i64 201, .int .i64 204, .int .i64 400, .int .i64 404, .int .i64 405, .int .i64 409, .int .i64 412, .int .i64 413, .int .i64 415, .int .i64 507] 3)).alloc (.cells #[.string ⟨#[79, 75]⟩, .string ⟨#[67, 114, 101, 97, 116, 101, 100]⟩, .string ⟨#[78, 111, 32, 67, 111, 110, 116, 101, 110, 116]⟩, .string ⟨#[66, 97, 100, 32, 82, 101, 113, 117, 101, 115, 116]⟩, .string ⟨#[78, 111, 116, 32, 70, 111, 117, 110, 100]⟩, .string ⟨#[77, 101, 116, 104, 111, 100, 32, 78, 111, 116, 32, 65, 108, 108, 111, 119, 101, 100]⟩, .string ⟨#[67, 111, 110, 102, 108, 105, 99, 116]⟩, .string ⟨#[80, 114, 101, 99, 111, 110, 100, 105, 116, 105, 111, 110, 32, 70, 97, 105, 108, 101, 100]⟩, .string ⟨#[67, 111, 110, 116, 101, 110, 116, 32, 84, 111, 111, 32, 76, 97, 114, 103, 101]⟩, .string ⟨#[85, 110, 115, 117, 112, 112, 111, 114, 116, 101, 100, 32, 77, 101, 100, 105, 97, 32, 84, 121, 112, 101]⟩, .string ⟨#[73, 110, 115, 117, 102, 102, 105, 99, 105, 101, 110, 116, 32, 83, 116, 111, 114, 97, 103, 101]⟩] 9)) = w2 at *
  go_loopw [5] (fun t wr => ∃ k : Nat, k ≤ 11 ∧ t = .int .i64 k ∧ wr = w2 ∧ ∀ p ∈ Rp.tab.take k, p.1 ≠ n) (fun t _ => 11 - (intOf t).toNat)
  case atStart => exact ⟨0, by omega, rfl, rfl, fun p hp => by simp at hp⟩
  case round =>
    obtain ⟨k, hk, rfl, rfl, hno⟩ := hrel
    have HN := Hid.mk' hno
    clear hno
    by_cases hlt : k < 11
    · obtain ⟨c0, c1⟩ := HT.out k hlt
      have hkl : k < Rp.tab.length := by rw [HLn.out]; exact hlt
      have HTk : Hid (Rp.tab.take (k + 1) = Rp.tab.take k ++ [Rp.tab[k]]) := List.take_succ_eq_append_getElem hkl
      have hlt' : (k : Int) < 11 := by omega
      by_cases he : Rp.tab[k].1 = n
      · have HW : Hid (Rp.word n = Rp.tab[k].2) := Rp.look_at Rp.tab n k hkl he HN.out
        rw [he] at c0
        clear he HTk
        generalize Rp.tab[k] = q at *
        generalize hqs : (⟨q.2.toArray⟩ : ByteArray) = qs at *
        have HQ := Hid.mk' hqs
        clear hqs
        go_wp2
        go_ret
        exact ⟨by rw [HW.out, HQ.out]; rfl, HB.out⟩
      · have HE := Hid.mk' he
        have te : (Rp.tab[k].1 == n) = false := by rw [beq_eq_false_iff_ne]; exact he
        clear he
        generalize Rp.tab[k] = q at *
        go_wp2
        go_roundw
        case rel =>
          refine ⟨k + 1, by omega, by go_num, trivial, fun p hp => ?_⟩
          rw [HTk.out] at hp
          rcases List.mem_append.1 hp with hp | hp
          · exact HN.out p hp
          · rw [List.mem_singleton.1 hp]; exact HE.out
        case measure => simp [intOf]; omega
    · obtain rfl : k = 11 := by omega
      have HW : Hid (Rp.word n = []) := Rp.look_no Rp.tab n (fun p hp => HN.out p (by rw [List.take_of_length_le (by rw [HLn.out]; exact Nat.le_refl _)]; exact hp))
      go_wp2
      go_ret
      exact ⟨by rw [HW.out]; rfl, HB.out⟩
end Go.Proofs.YtjhbiipbmlpgoaaDoor
