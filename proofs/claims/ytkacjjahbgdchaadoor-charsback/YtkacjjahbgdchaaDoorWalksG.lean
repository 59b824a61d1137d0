/- Trim as package chars has it, and that the package is there at all, walked. -/
import Derived.Test.YtkacjjahbgdchaaDoorWalksF
import Derived.Test.YtkacjjahbgdchaaDoorShelf
namespace Go.Proofs.YtkacjjahbgdchaaDoor
open Go.RowKit

theorem Hid.mk' {p : Prop} (h : p) : Hid p := h
theorem then_ {w a b : World} (h : Below w.heap.size w a) (k : Below a.heap.size a b) : Below w.heap.size w b := h.trans (k.mono h.size)
theorem drewN_below {w a : World} (h : ∃ n, a = w.drewN n) : Below w.heap.size w a := by
  obtain ⟨n, rfl⟩ := h
  exact ⟨rfl, rfl, rfl, Nat.le_refl _, fun _ _ => rfl⟩

theorem trimS_le (l : List UInt8) : (Lib.trimS l Ch.ws).length ≤ l.length := by
  unfold Lib.trimS Lib.trimLeftS Lib.trimRightS
  have h1 := (List.dropWhile_suffix (l := (l.reverse.dropWhile (Ch.ws.contains ·)).reverse) (Ch.ws.contains ·)).length_le
  have h2 := (List.dropWhile_suffix (l := l.reverse) (Ch.ws.contains ·)).length_le
  simp only [List.length_reverse] at h1 h2
  omega

theorem drop_again (p : UInt8 → Bool) : ∀ l : List UInt8, (l.dropWhile p).dropWhile p = l.dropWhile p
  | [] => rfl
  | a :: t => by
    rw [List.dropWhile_cons]
    cases hp : p a
    · simp only [Bool.false_eq_true, if_false]
      rw [List.dropWhile_cons, hp]
      rfl
    · simp only [if_true]
      exact drop_again p t
theorem trimS_again (l : List UInt8) : Lib.trimS (Lib.trimS l Ch.ws) Ch.ws = Lib.trimS l Ch.ws := by
  conv => lhs; rw [← Ch.trim_both]
  have h1 : Lib.trimLeftS (Lib.trimS l Ch.ws) Ch.ws = Lib.trimS l Ch.ws := drop_again _ _
  rw [h1, ← Ch.trim_both]
  unfold Lib.trimRightS
  rw [List.reverse_reverse, drop_again]

set_option maxHeartbeats 400000 in
theorem clone_any (s : ByteArray) (w : World) (hs : s.size ≤ 2000) :
    Calls Tryd.prog 33 #[.string s] w fun e w' => e = .returned (.string s) ∧ Below w.heap.size w w' := by
  have hcon := Any.stringslite_Clone Tryd.lays316 s w (by omega)
  change Calls Tryd.prog 36 _ _ (fun e w' => e = .returned (.string s) ∧ Below w.heap.size w w') at hcon
  go_enter Tryd.func33, Tryd.ntmps33
  go_wp2_with (go_at_call 36; refine hcon.mono ?_; rintro e w' ⟨rfl, hB⟩)
  go_ret
  exact ⟨rfl, hB⟩

set_option maxHeartbeats 1000000 in
theorem trim_any (s : ByteArray) (w : World) (hs : s.size ≤ 2000) :
    Calls Tryd.prog 24 #[.string s] w fun e w' => e = .returned (.string ⟨(Lib.trimS s.data.toList Ch.ws).toArray⟩) ∧ Below w.heap.size w w' := by
  have hcon := Any.strings_Trim_laid Tryd.lays160 (by kernel_rfl) s ⟨#[32, 9]⟩ w (by omega) (by decide) (ascii_of_all (by decide))
  change Calls Tryd.prog 34 _ _ (fun e w' => e = .returned (.string ⟨(Lib.trimS s.data.toList Ch.ws).toArray⟩) ∧ Below w.heap.size w w') at hcon
  have hr : (⟨(Lib.trimS s.data.toList Ch.ws).toArray⟩ : ByteArray).size ≤ 2000 := by
    have h1 := trimS_le s.data.toList
    rw [Ch.len_list] at h1
    show (Lib.trimS s.data.toList Ch.ws).toArray.size ≤ 2000
    rw [List.size_toArray]
    omega
  generalize (⟨(Lib.trimS s.data.toList Ch.ws).toArray⟩ : ByteArray) = r at hcon hr ⊢
  go_enter Tryd.func24, Tryd.ntmps24
  go_wp2_with (go_at_call 34; refine hcon.mono ?_; rintro e w1 ⟨rfl, hB⟩)
  go_wp2_with fail
  refine (clone_any _ _ hr).mono ?_
  rintro e w2 ⟨rfl, hB2⟩
  go_wp2
  go_ret
  exact ⟨rfl, then_ hB hB2⟩

end Go.Proofs.YtkacjjahbgdchaaDoor
