/- Small texts, one behind the other: PmRdC, CsLower. -/
import Derived.Test.YtohddkniphcecabPk4
import Derived.Test.YtohddkniphcecabPk3
import Derived.Test.YtohddkniphcecabPk1
/- Package params, walked: a reader's quoted. -/
namespace Go.Proofs.Ytohddkniphcecab
open Go.RowKit

/-- what a quoted text is told by -/
def QuoOut (m : Option (List UInt8 × List UInt8)) (w : World) (g : Nat) (s : ByteArray) (e : Ending) (w' : World) : Prop :=
  Turns (only g) w w' ∧ match m with
    | none => e = gave 14
    | some x => e = .returned (.string ⟨x.1.toArray⟩) ∧ ∃ j, j ≤ s.size ∧ RdAt w' g s j ∧ s.data.toList.drop j = x.2
theorem QuoOut.no {m : Option (List UInt8 × List UInt8)} {w : World} {g : Nat} {s : ByteArray} {w' : World} (hm : m = none) (ht : Turns (only g) w w') : QuoOut m w g s (gave 14) w' := by
  subst hm; exact ⟨ht, rfl⟩
theorem QuoOut.yes {m : Option (List UInt8 × List UInt8)} {w : World} {g : Nat} {s : ByteArray} {v r : List UInt8} {e : Ending} {w' : World} {j : Nat} (hm : m = some (v, r)) (he : e = .returned (.string ⟨v.toArray⟩)) (hj : j ≤ s.size) (hr : RdAt w' g s j) (hd : s.data.toList.drop j = r) (ht : Turns (only g) w w') : QuoOut m w g s e w' := by
  subst hm; exact ⟨ht, he, j, hj, hr, hd⟩
/-- a reader, and bytes that are gathered beside it -/
structure QuoAt (w : World) (g : Nat) (s : ByteArray) (k : Nat) (acc : List UInt8) (ao : Option Addr) (cap : Nat) (wr : World) : Prop where
  rd : RdAt wr g s k
  own : OwnB wr w.heap.size 5 ao cap acc
  turns : Turns (only g) w wr
  lt : g < w.heap.size
section
variable {w wr w1 w3 : World} {g k k' : Nat} {s : ByteArray} {acc acc' : List UInt8} {ao ao' : Option Addr} {cap cap' : Nat}
theorem QuoAt.feed (h : QuoAt w g s k acc ao cap wr) (h1 : RdAt w1 g s k') (h2 : Turns (only g) wr w1) : QuoAt w g s k' acc ao cap w1 :=
  ⟨h1, h.own.turns h2 (fun a e e2 => by have := (h.own.block a e).1; have := h.lt; unfold only at e2; omega), h.turns.trans h2 (fun _ h _ => h), h.lt⟩
theorem QuoAt.push (h : QuoAt w g s k acc ao cap wr) (ob : Obj) (hO : OwnB w3 w.heap.size 5 ao' cap' acc') (hG : (wr.alloc ob).grownBy w3 (blockOf ao)) : QuoAt w g s k acc' ao' cap' w3 := by
  have hS : ∀ i, blockOf ao = some i → w.heap.size ≤ i := by
    intro i e
    cases ao with
    | none => simp [blockOf] at e
    | some a => simp only [blockOf, Option.some.injEq] at e; have := (h.own.block a rfl).1; omega
  have hT : Turns (fun i => w.heap.size ≤ i) wr w3 := (Turns.of_grown (World.grownBy_alloc wr ob none) (fun k e => by cases e)).trans (Turns.of_grown hG hS) (fun _ h _ => h)
  exact ⟨h.rd.turns hT (by have := h.lt; omega), hO, h.turns.trans hT (fun i hi hlt => by omega), h.lt⟩
end
theorem IsB.one_at' (W : World) (c : UInt8) (t : Nat) (fr : Nat × Nat) {k : Nat} (hk : W.heap.size = k) : IsB (W.alloc (.cells #[.int .u8 (c.toNat : Int)] t fr)) (Option.some ⟨k, 0, Option.none⟩) 1 [c] := hk ▸ IsB.one W c t fr

set_option maxHeartbeats 1600000 in
theorem quoted_any (s : ByteArray) (i g : Nat) (w : World) (h : RdAt w g s i) (hs : s.size ≤ 1000000) (hi : i ≤ s.size) :
    Calls Try.prog 51 #[.pointer (some ⟨g, 0, none⟩)] w fun e w' => QuoOut (Pm.quo [] (s.data.toList.drop i)) w g s e w' := by
  have hl : s.data.toList.length = s.size := by rw [Array.length_toList]; rfl
  have HL := Hid.mk' hl
  have H := Hid.mk' h
  obtain ⟨i0, hi0, hz0, hz1, hz2⟩ := info_parts info_u8
  have Hi := Hid.mk' hi0; have Hz0 := Hid.mk' hz0; have Hz1 := Hid.mk' hz1; have Hz2 := Hid.mk' hz2
  clear h hl hi0 hz0 hz1 hz2
  go_enter Try.func51, Try.ntmps51
  go_wp2
  go_loopw [3] (fun t wr => ∃ (k : Nat) (acc : List UInt8) (ao : Option Addr) (cap : Nat), k ≤ s.size ∧ acc.length ≤ k ∧ t = .slice ao acc.length cap ∧ QuoAt w g s k acc ao cap wr ∧ Pm.quo [] (s.data.toList.drop i) = Pm.quo acc (s.data.toList.drop k)) (fun _ wr => s.size - atOf wr g)
  case atStart => exact ⟨i, [], none, 0, hi, Nat.zero_le _, rfl, ⟨H.out, OwnB.nil _ _ _, Turns.refl _ _, H.out.lt⟩, rfl⟩
  case round =>
    clear H
    obtain ⟨k, acc, ao, cap, hk, hal, rfl, hA, hq⟩ := hrel
    have HA := Hid.mk' hA
    have HAt := Hid.mk' hA.rd.atOf
    have HQ := Hid.mk' hq
    clear hA hq
    by_cases hlt : k < s.size
    · have HD : Hid (s.data.toList.drop k = s[k] :: s.data.toList.drop (k + 1)) := by
        unfold Hid; rw [List.drop_eq_getElem_cons (by rw [HL.out]; exact hlt), text_at s k hlt]
      go_wp2_with fail
      refine (inner_yes s k g _ HA.out.rd hs hlt).mono ?_
      rintro e w1 ⟨rfl, h1, h2⟩
      have HA1 := Hid.mk' (HA.out.feed h1 h2)
      clear h1 h2 HA
      generalize s[k] = c at *
      by_cases h34 : c = 34
      · subst h34
        have HR : Hid (Pm.quo [] (s.data.toList.drop i) = some (acc, s.data.toList.drop (k + 1))) := by unfold Hid; rw [HQ.out, HD.out, Pm.quo_end]
        have hconv := HA1.out.own.isB.str (P := Try.prog) 45 9 5 Try.underlying45 Try.underlying5 Try.underlying9
        clear HQ HD
        go_wp2
        go_ret
        exact QuoOut.yes HR.out rfl (by omega) HA1.out.rd rfl HA1.out.turns
      · have t34 : ((c.toNat : Int) == 34) = false := byte_ne' h34
        by_cases h92 : c = 92
        · subst h92
          clear t34 h34
          by_cases hlt2 : k + 1 < s.size
          · have HD2 : Hid (s.data.toList.drop (k + 1) = s[k + 1] :: s.data.toList.drop (k + 2)) := by
              unfold Hid; rw [List.drop_eq_getElem_cons (by rw [HL.out]; exact hlt2), text_at s (k + 1) hlt2]
            have HR : Hid (Pm.quo [] (s.data.toList.drop i) = Pm.quo (acc ++ [s[k + 1]]) (s.data.toList.drop (k + 2))) := by
              unfold Hid; rw [HQ.out, HD.out, HD2.out, Pm.quo_back]
            clear HQ HD HD2
            go_wp2_with fail
            refine (inner_yes s (k + 1) g _ HA1.out.rd hs hlt2).mono ?_
            rintro e w2 ⟨rfl, h1, h2⟩
            have HA2 := Hid.mk' (HA1.out.feed h1 h2)
            clear h1 h2 HA1
            generalize s[k + 1] = d at *
            go_wp2_with (at_builtin; refine wpList_append_at rfl (.tmp 15) (.tmp 17) 45 rfl w.heap.size 5 i0 Try.underlying45 Hi.out Hz0.out Hz1.out Hz2.out (l := acc) (l2 := [d]) rfl rfl (HA2.out.own.alloc _) rfl rfl (IsB.one_at' _ _ _ _ (by simp)) (by simp; omega) (by have := HA2.out.turns.size; simp; omega) ?_; intro ao3 cap3 w3 hO3 hG3 hat3; have HA3 := Hid.mk' (HA2.out.push _ hO3 hG3); clear hO3 hG3 hat3)
            go_roundw
            case rel => exact ⟨k + 2, acc ++ [d], ao3, cap3, by omega, by rw [List.length_append]; simp; omega, by rw [List.length_append]; rfl, HA3.out, HR.out⟩
            case measure => rw [HA3.out.rd.atOf, HAt.out]; omega
          · have HR : Hid (Pm.quo [] (s.data.toList.drop i) = none) := by
              unfold Hid; rw [HQ.out, HD.out, List.drop_eq_nil_of_le (show s.data.toList.length ≤ k + 1 by rw [HL.out]; omega), Pm.quo_back_nil]
            clear HQ HD
            go_wp2_with fail
            refine (inner_no s (k + 1) g _ HA1.out.rd hlt2).mono ?_
            rintro e w2 ⟨he, h2⟩
            unfold gave at he
            subst he
            have HT := Hid.mk' (HA1.out.turns.trans h2 (fun _ h _ => h))
            clear h2
            go_wp2
            exact ⟨rfl, QuoOut.no HR.out HT.out⟩
        · have t92 : ((c.toNat : Int) == 92) = false := byte_ne' h92
          have HR : Hid (Pm.quo [] (s.data.toList.drop i) = Pm.quo (acc ++ [c]) (s.data.toList.drop (k + 1))) := by
            unfold Hid; rw [HQ.out, HD.out, Pm.quo_byte _ _ _ h34 h92]
          clear HQ HD h34 h92
          go_wp2_with (at_builtin; refine wpList_append_at rfl (.tmp 15) (.tmp 17) 45 rfl w.heap.size 5 i0 Try.underlying45 Hi.out Hz0.out Hz1.out Hz2.out (l := acc) (l2 := [c]) rfl rfl (HA1.out.own.alloc _) rfl rfl (IsB.one_at' _ _ _ _ (by simp)) (by simp; omega) (by have := HA1.out.turns.size; simp; omega) ?_; intro ao3 cap3 w3 hO3 hG3 hat3; have HA3 := Hid.mk' (HA1.out.push _ hO3 hG3); clear hO3 hG3 hat3)
          go_roundw
          case rel => exact ⟨k + 1, acc ++ [c], ao3, cap3, by omega, by rw [List.length_append]; simp; omega, by rw [List.length_append]; rfl, HA3.out, HR.out⟩
          case measure => rw [HA3.out.rd.atOf, HAt.out]; omega
    · have HR : Hid (Pm.quo [] (s.data.toList.drop i) = none) := by
        unfold Hid; rw [HQ.out, List.drop_eq_nil_of_le (show s.data.toList.length ≤ k by rw [HL.out]; omega), Pm.quo_nil]
      clear HQ
      go_wp2_with fail
      refine (inner_no s k g _ HA.out.rd hlt).mono ?_
      rintro e w2 ⟨he, h2⟩
      unfold gave at he
      subst he
      have HT := Hid.mk' (HA.out.turns.trans h2 (fun _ h _ => h))
      clear h2
      go_wp2
      exact ⟨rfl, QuoOut.no HR.out HT.out⟩
end Go.Proofs.Ytohddkniphcecab

/- Package chars, walked: Lower. -/
namespace Go.Proofs.Ytohddkniphcecab
open Go.RowKit

/-- the bytes when the first k were looked at -/
def lowCell (s : ByteArray) (k j : Nat) : Value := .int .u8 ((if j < k then Ch.lowB (s.data.toList.getD j 0) else s.data.toList.getD j 0).toNat : Int)

theorem lowCell_same (s : ByteArray) (k j : Nat) (h : Ch.lowB (s.data.toList.getD k 0) = s.data.toList.getD k 0) : some (lowCell s k j) = some (lowCell s (k + 1) j) := by
  unfold lowCell
  by_cases h1 : j < k
  · rw [if_pos h1, if_pos (by omega)]
  · by_cases h2 : j = k
    · subst h2; rw [if_neg h1, if_pos (by omega), h]
    · rw [if_neg h1, if_neg (by omega)]

theorem lowCell_other (s : ByteArray) (k j : Nat) (h : j ≠ k) : some (lowCell s k j) = some (lowCell s (k + 1) j) := by
  unfold lowCell
  by_cases h1 : j < k
  · rw [if_pos h1, if_pos (by omega)]
  · rw [if_neg h1, if_neg (by omega)]

set_option maxHeartbeats 800000 in
theorem lower_any (s : ByteArray) (w : World) (hs : s.size ≤ maxLen) :
    Calls Try.prog 43 #[.string s] w fun e w' => e = .returned (.string ⟨(Ch.lower s.data.toList).toArray⟩) ∧ Below w.heap.size w w' := by
  unfold maxLen at hs
  have hconv := run_bytes_of_string (P := Try.prog) w 9 45 5 s Try.underlying9 Try.underlying45 Try.underlying5
  generalize grownCap w s.size 0 5 = cap at hconv
  have hat : ∀ j, j < s.size → (bytesRow s cap)[j]? = some (lowCell s 0 j) := fun j hj => by
    rw [bytesRow_at s cap j hj]
    unfold lowCell
    rw [if_neg (by omega)]
    have e : s.data.toList.getD j 0 = s.data[j]'hj := by
      simp [List.getD, hj]
    rw [e]
  have hsz : s.size ≤ (bytesRow s cap).size := by unfold bytesRow; simp
  generalize bytesRow s cap = C at hconv hat hsz
  go_enter Try.func43, Try.ntmps43
  go_wp2
  have hB0 : Below w.heap.size w (w.alloc (.cells C 5 (C.size, C.size + 1))).drew := ((Below.refl _ _).alloc (Nat.le_refl _) _).drew
  have hc0 : ∀ j, j < s.size → ((w.alloc (.cells C 5 (C.size, C.size + 1))).drew).cell? ⟨w.heap.size, j, none⟩ = some (lowCell s 0 j) := fun j hj => by
    rw [← hat j hj]; exact World.cell?_alloc_mark w C 5 _ j
  have hf0 : ∀ j, j < s.size → ((w.alloc (.cells C 5 (C.size, C.size + 1))).drew).frozen? ⟨w.heap.size, j, none⟩ = false := fun j hj => by
    refine (World.frozen?_alloc_mark w C 5 C.size (C.size + 1) j).trans ?_
    rw [decide_eq_false (by omega)]; rfl
  clear hconv hat
  go_loopw [10] (fun i wr => ∃ k : Nat, k ≤ s.size ∧ i = .int .i64 k ∧ Below w.heap.size w wr ∧ (∀ j, j < s.size → wr.cell? ⟨w.heap.size, j, none⟩ = some (lowCell s k j)) ∧ (∀ j, j < s.size → wr.frozen? ⟨w.heap.size, j, none⟩ = false)) (fun i _ => s.size - (intOf i).toNat)
  case atStart => exact ⟨0, Nat.zero_le _, rfl, hB0, hc0, hf0⟩
  case round =>
    obtain ⟨k, hk, rfl, hbl, hcs, hfs⟩ := hrel
    clear hB0 hc0 hf0 hsz
    have HC : Hid (∀ j, j < s.size → wr.cell? ⟨w.heap.size, j, none⟩ = some (lowCell s k j)) := hcs
    have HF : Hid (∀ j, j < s.size → wr.frozen? ⟨w.heap.size, j, none⟩ = false) := hfs
    clear hcs hfs
    by_cases hlt : k < s.size
    · have hb := s[k].toNat_lt
      have e0 : s.data.toList.getD k 0 = s[k] := by
        have : s.data.toList[k]? = some s[k] := List.getElem?_eq_getElem (by simpa using hlt)
        simp [List.getD, this]
      have hcell : wr.cell? ⟨w.heap.size, k, none⟩ = some (.int .u8 s[k].toNat) := by
        rw [HC.out k hlt]; unfold lowCell; rw [if_neg (by omega), e0]
      have hfz := HF.out k hlt
      have H0 : Hid (s.data.toList.getD k 0 = s[k]) := e0
      clear e0
      cases hcap : Ch.capital s[k].toNat
      · have HL : Hid (Ch.lowB s[k] = s[k]) := Ch.lowB_no _ hcap
        go_wp2_with (go_at_call 55; refine (capital_any _ _).mono ?_; rintro e w' ⟨rfl, rfl⟩)
        go_roundw
        case rel => exact ⟨k + 1, by omega, by go_num, hbl, fun j hj => by rw [HC.out j hj]; exact lowCell_same s k j (by rw [H0.out, HL.out]), HF.out⟩
        case measure => simp [intOf]; omega
      · have HL : Hid (((Ch.lowB s[k]).toNat : Int) = s[k].toNat - 65 + 97) := Ch.lowB_yes _ hcap
        have hcr : 65 ≤ s[k].toNat ∧ s[k].toNat ≤ 90 := by
          unfold Ch.capital at hcap; rw [Bool.and_eq_true, decide_eq_true_eq, decide_eq_true_eq] at hcap; omega
        go_wp2_with (go_at_call 55; refine (capital_any _ _).mono ?_; rintro e w' ⟨rfl, rfl⟩)
        go_roundw
        case rel =>
          refine ⟨k + 1, by omega, by go_num, hbl.setCell (Nat.le_refl _) _, fun j hj => ?_, fun j hj => by rw [World.frozen?_setCell]; exact HF.out j hj⟩
          by_cases hjk : j = k
          · subst hjk
            rw [World.cell?_setCell_same (h := hcell)]
            unfold lowCell
            rw [if_pos (by omega), H0.out, HL.out]
          · rw [World.cell?_setCell_other (h := by intro h; injection h with _ h2; exact hjk h2.symm), HC.out j hj]
            exact lowCell_other s k j hjk
        case measure => simp [intOf]; omega
    · obtain rfl : k = s.size := by omega
      have hback : (convert 45 9 (.slice (some ⟨w.heap.size, 0, none⟩) s.size cap)).run Try.prog wr = .ok (.string ⟨(Ch.lower s.data.toList).toArray⟩) wr := by
        have h := run_convert_bytes_back (P := Try.prog) wr 45 9 5 ⟨w.heap.size, 0, none⟩ cap (Ch.lower s.data.toList) Try.underlying45 Try.underlying5 Try.underlying9 (fun j hj => by
          have hj' : j < s.size := by rw [Ch.lower_length, Ch.len_list] at hj; exact hj
          have ha : ((⟨w.heap.size, 0, none⟩ : Addr).add j) = ⟨w.heap.size, j, none⟩ := by unfold Addr.add; simp; omega
          rw [ha, HC.out j hj']
          unfold lowCell
          rw [if_pos hj']
          have e : (Ch.lower s.data.toList)[j] = Ch.lowB (s.data.toList.getD j 0) := by
            simp [Ch.lower, List.getD, hj']
          rw [e])
        rw [Ch.lower_length, Ch.len_list] at h
        exact h
      clear HC HF
      generalize hr : (⟨(Ch.lower s.data.toList).toArray⟩ : ByteArray) = r at hback
      have HR : Hid ((⟨(Ch.lower s.data.toList).toArray⟩ : ByteArray) = r) := hr
      clear hr
      go_wp2
      go_ret
      exact ⟨ret_str HR.out.symm, hbl⟩
end Go.Proofs.Ytohddkniphcecab
