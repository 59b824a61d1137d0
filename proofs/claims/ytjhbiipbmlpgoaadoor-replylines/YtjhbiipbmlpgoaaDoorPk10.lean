/- Small texts, one behind the other: SlCloneF, LwGreat, RfSame. -/
import Derived.Test.YtjhbiipbmlpgoaaDoorPk9
import Derived.Test.YtjhbiipbmlpgoaaDoorPk4
import Derived.Test.YtjhbiipbmlpgoaaDoorBase
import Derived.Lib.SliceRun
import Derived.Test.YtjhbiipbmlpgoaaDoorProg
/- slices.Clone of fields, walked. -/
namespace Go.Proofs.YtjhbiipbmlpgoaaDoor
open Go.RowKit

set_option maxHeartbeats 1000000 in
theorem cloneFields_great (l : List (ByteArray × ByteArray)) (fo : Option Addr) (fcap n : Nat) (w : World) (hl : IsV w fo fcap n (pairV l)) (hn : l.length = n) (hN : n * 32 ≤ 140737488355328) :
    Calls Tryd.prog 18 #[.slice fo n fcap] w fun e w' => ∃ ao cap, e = .returned (.slice ao n cap) ∧ OwnV w' w.heap.size 36 2 ao cap n (pairV l) ∧ Below w.heap.size w w' := by
  have qT : ∀ (w : World) (a : Option Addr) (n c n' c' : Nat), (binOp .eql 22 (.slice a n c) (.slice none n' c')).run Tryd.prog w = .ok (.bool a.isNone) w := fun w a n c n' c' => Lib.run_eql_slice_nil w _ _ a n c n' c' Tryd.underlying22
  cases fo with
  | none =>
    have hc := hl.2.1 rfl
    have hn0 : n = 0 := by have := hl.1; omega
    subst hn0
    obtain rfl : l = [] := List.eq_nil_of_length_eq_zero hn
    go_enter Tryd.func18, Tryd.ntmps18
    go_wp2
    go_ret
    exact ⟨none, 0, rfl, OwnV.nil _ _ _ _, Below.refl _ _⟩
  | some a =>
    have HL := Hid.mk' hl
    have hp := pairV_length l
    obtain ⟨i0, hi0, hz0, hz1, hz2⟩ := info_parts info_fld
    have Hi := Hid.mk' hi0; have Hz0 := Hid.mk' hz0; have Hz1 := Hid.mk' hz1; have Hz2 := Hid.mk' hz2
    have HP : Hid ((pairV l).length = n * 2) := by rw [hn] at hp; exact hp
    clear hi0 hz0 hz1 hz2 hl hp hn
    go_enter Tryd.func18, Tryd.ntmps18
    go_wp2_with (at_builtin; refine wpList_append_v rfl (.tmp 5) (.tmp 6) 22 rfl w.heap.size 36 i0 (.agg #[.string ⟨#[]⟩, .string ⟨#[]⟩]) 2 32 Tryd.underlying22 Hi.out Hz0.out Hz1.out Hz2.out rfl (by decide) (n := 0) (xs := []) rfl (World.ownsRow_lit _ #[] 0 (by simp) (by decide) rfl) rfl (HL.out.alloc _) HP.out (pairV_one l) (by omega) (by omega) (by simp) ?_; intro ao3 cap3 w3 hO3 hG3 hat3; have HO3 := Hid.mk' hO3; have HG3 := Hid.mk' hG3; clear hO3 hG3 hat3)
    go_ret
    refine ⟨ao3, cap3, by simp, ?_, ?_⟩
    · have := HO3.out
      rw [List.nil_append, Nat.zero_add] at this
      exact this
    · exact ((Below.refl _ _).alloc (Nat.le_refl _) _).grown HG3.out (by simp) (fun q e => by simp [blockOf] at e; omega)
theorem cloneFields_any (l : List (ByteArray × ByteArray)) (fo : Option Addr) (fcap n : Nat) (w : World) (hl : IsV w fo fcap n (pairV l)) (hn : l.length = n) (hN : n ≤ 1000000) :
    Calls Tryd.prog 18 #[.slice fo n fcap] w fun e w' => ∃ ao cap, e = .returned (.slice ao n cap) ∧ OwnV w' w.heap.size 36 2 ao cap n (pairV l) ∧ Below w.heap.size w w' := cloneFields_great l fo fcap n w hl hn (by omega)
end Go.Proofs.YtjhbiipbmlpgoaaDoor

/- The statements' own: greatFields, walked: if it says no, all is small. -/
namespace Go.Proofs.YtjhbiipbmlpgoaaDoor
open Go.RowKit

/-- fields that are few and small -/
def SmallF (l : List (ByteArray × ByteArray)) : Prop := l.length ≤ 100 ∧ ∀ p ∈ l, p.1.size + p.2.size ≤ 1000

set_option maxHeartbeats 800000 in
theorem greatFields_any (l : List (ByteArray × ByteArray)) (ao : Option Addr) (cap n : Nat) (w : World) (hl : IsV w ao cap n (pairV l)) (hn : l.length = n) (hz : ∀ p ∈ l, p.1.size + p.2.size ≤ maxLen) :
    Calls Tryd.prog 6 #[.slice ao n cap] w fun e w' => ∃ b : Bool, e = .returned (.bool b) ∧ (b = false → SmallF l) ∧ ∃ q, w' = w.drewN q := by
  subst hn
  by_cases h100 : 100 < l.length
  · go_enter Tryd.func6, Tryd.ntmps6
    go_wp2
    go_ret
    exact ⟨true, rfl, (fun h => by cases h), 0, rfl⟩
  · have t100 : decide ((l.length : Int) > 100) = false := by rw [decide_eq_false_iff_not]; omega
    have H := Hid.mk' hl
    have HZ := Hid.mk' hz
    clear hl hz
    go_enter Tryd.func6, Tryd.ntmps6
    go_wp2
    go_loopw [3] (fun t wr => ∃ k q : Nat, k ≤ l.length ∧ t = .int .i64 k ∧ wr = w.drewN q ∧ ∀ p ∈ l.take k, p.1.size + p.2.size ≤ 1000) (fun t _ => l.length - (intOf t).toNat)
    case atStart => exact ⟨0, 0, Nat.zero_le _, rfl, rfl, fun p hp => by simp at hp⟩
    case round =>
      obtain ⟨k, q, hk, rfl, rfl, hno⟩ := hrel
      have HN := Hid.mk' hno
      clear hno
      by_cases hlt : k < l.length
      · obtain ⟨bb, oo, rfl, hcs⟩ := H.out.lit (by rw [pairV_length]; omega)
        have hc0 := hcs _ _ (pairV_at l k hlt).1
        have hc1 := hcs _ _ (pairV_at l k hlt).2
        rw [← Nat.add_assoc] at hc1
        clear hcs
        have hlt' : (k : Int) < l.length := by omega
        have hz := HZ.out l[k] (List.getElem_mem hlt)
        have HT : Hid (l.take (k + 1) = l.take k ++ [l[k]]) := List.take_succ_eq_append_getElem hlt
        unfold maxLen at hz
        generalize l[k] = p at *
        have hw : IntKind.i64.wrap ((p.1.size : Int) + p.2.size) = (p.1.size : Int) + p.2.size := wrap_id (by omega) (by omega)
        by_cases hg : 1000 < p.1.size + p.2.size
        · have tg : decide ((p.1.size : Int) + p.2.size > 1000) = true := by rw [decide_eq_true_eq]; omega
          go_wp2
          go_quiet (fail)
          go_wp2
          go_ret
          exact ⟨true, rfl, (fun h => by cases h), q + nq, by simp⟩
        · have tg : decide ((p.1.size : Int) + p.2.size > 1000) = false := by rw [decide_eq_false_iff_not]; omega
          go_wp2
          go_quiet (fail)
          go_wp2
          go_roundw
          case rel =>
            refine ⟨k + 1, q + nq, by omega, by go_num, by simp, fun r hr => ?_⟩
            rw [HT.out, List.mem_append] at hr
            rcases hr with hr | hr
            · exact HN.out r hr
            · rw [List.mem_singleton] at hr; subst hr; omega
          case measure => simp [intOf]; omega
      · obtain rfl : k = l.length := by omega
        go_wp2
        go_ret
        exact ⟨false, rfl, fun _ => ⟨by omega, fun p hp => HN.out p (by rw [List.take_length]; exact hp)⟩, q, rfl⟩
end Go.Proofs.YtjhbiipbmlpgoaaDoor

/- The document's own answer, walked: SameBytes. -/
namespace Go.Proofs.YtjhbiipbmlpgoaaDoor
open Go.RowKit

theorem same_lists (a b : List UInt8) : ((⟨a.toArray⟩ : ByteArray).toList == (⟨b.toArray⟩ : ByteArray).toList) = decide (a = b) := by
  rw [Lib.toList_data, Lib.toList_data, Bool.eq_iff_iff]; simp

theorem sameBytes_any (w : World) (ao1 ao2 : Option Addr) (cap1 cap2 n1 n2 : Nat) (l1 l2 : List UInt8) (hn1 : l1.length = n1) (hn2 : l2.length = n2) (h1 : IsB w ao1 cap1 l1) (h2 : IsB w ao2 cap2 l2) :
    Calls Tryd.prog 9 #[.slice ao1 n1 cap1, .slice ao2 n2 cap2] w fun e w' => e = .returned (.bool (decide (l1 = l2))) ∧ w' = w := by
  subst hn1; subst hn2
  have q1 := h1.str (P := Tryd.prog) 23 9 5 Tryd.underlying23 Tryd.underlying5 Tryd.underlying9
  have q2 := h2.str (P := Tryd.prog) 23 9 5 Tryd.underlying23 Tryd.underlying5 Tryd.underlying9
  have HS := Hid.mk' (same_lists l1 l2)
  generalize (⟨l1.toArray⟩ : ByteArray) = s1 at q1 HS
  generalize (⟨l2.toArray⟩ : ByteArray) = s2 at q2 HS
  clear h1 h2
  go_enter Tryd.func9, Tryd.ntmps9
  go_wp2
  go_ret
  exact ⟨ret_bool HS.out, rfl⟩
end Go.Proofs.YtjhbiipbmlpgoaaDoor
