/- Small texts, one behind the other: PlainT, PlainG, StCut, PmTxA. -/
import Derived.Test.YtohddkniphcecabPk1
import Derived.Test.YtohddkniphcecabPk11
import Derived.Test.YtohddkniphcecabPk4
import Derived.Test.YtohddkniphcecabPk7
import Derived.Test.YtohddkniphcecabPk5
import Derived.Test.YtohddkniphcecabPk10
/- Texts without blanks at their ends, again. -/
namespace Go.Proofs.Ytohddkniphcecab
open Go.RowKit

theorem trimS_le (l : List UInt8) : (Lib.trimS l Ch.ws).length ≤ l.length := by
  unfold Lib.trimS Lib.trimLeftS Lib.trimRightS
  have h1 := (List.dropWhile_suffix (l := (l.reverse.dropWhile (Ch.ws.contains ·)).reverse) (Ch.ws.contains ·)).length_le
  have h2 := (List.dropWhile_suffix (l := l.reverse) (Ch.ws.contains ·)).length_le
  simp only [List.length_reverse] at h1 h2
  omega

theorem drop_again (p : UInt8 → Bool) : ∀ l : List UInt8, (l.dropWhile p).dropWhile p = l.dropWhile p
  | [] => rfl
  | a :: t => by
    rw [List.dropWhile_cons]
    cases hp : p a
    · simp only [Bool.false_eq_true, if_false]
      rw [List.dropWhile_cons, hp]
      rfl
    · simp only [if_true]
      exact drop_again p t

theorem trimS_again (l : List UInt8) : Lib.trimS (Lib.trimS l Ch.ws) Ch.ws = Lib.trimS l Ch.ws := by
  conv => lhs; rw [← Ch.trim_both]
  have h1 : Lib.trimLeftS (Lib.trimS l Ch.ws) Ch.ws = Lib.trimS l Ch.ws := drop_again _ _
  rw [h1, ← Ch.trim_both]
  unfold Lib.trimRightS
  rw [List.reverse_reverse, drop_again]
end Go.Proofs.Ytohddkniphcecab

/- Plain laws of a head's fields: there and back; with no program in them. -/
namespace Go.Proofs.Ytohddkniphcecab.Fd

/-- what stands first, as the library looks for it -/
theorem index_at (l : List UInt8) (c : UInt8) : (Lib.indexByte l c = -1 ∧ at_ c l = l.length) ∨ (Lib.indexByte l c = (at_ c l : Int) ∧ at_ c l < l.length) := by
  by_cases h : Lib.indexByte l c = -1
  · refine Or.inl ⟨h, at_none fun j hj e => ?_⟩
    exact Lib.indexByte_none h j (by rw [List.getElem?_eq_getElem hj, e])
  · have hge := Lib.indexByte_ge l c
    obtain ⟨o, ho⟩ : ∃ o : Nat, Lib.indexByte l c = o := ⟨(Lib.indexByte l c).toNat, by omega⟩
    obtain ⟨h1, h2⟩ := Lib.indexByte_some ho
    obtain ⟨hlt, he⟩ := List.getElem?_eq_some_iff.1 h1
    have : at_ c l = o := at_is hlt he fun j hj e => h2 j hj (by rw [List.getElem?_eq_getElem (by omega), e])
    refine Or.inr ⟨by rw [ho, this], by omega⟩

theorem all_dropWhile (p q : UInt8 → Bool) (h : ∀ b, q b = true → p b = true) : ∀ l : List UInt8, (l.dropWhile q).all p = l.all p
  | [] => rfl
  | a :: t => by
    rw [List.dropWhile_cons]
    cases hq : q a
    · rfl
    · rw [if_pos rfl, all_dropWhile p q h t, List.all_cons, h a hq]; rfl
theorem ws_seen (b : UInt8) (h : Ch.ws.contains b = true) : Ch.visible b.toNat = true := by
  have hb := b.toNat_lt
  have := (show ∀ n : Fin 256, Ch.ws.contains n.val.toUInt8 = true → Ch.visible ((n.val.toUInt8).toNat : Int) = true by decide +kernel) ⟨b.toNat, hb⟩
  have e : b.toNat.toUInt8 = b := by simp
  simp only [e] at this
  exact this h
/-- blanks and tabs are visible -/
theorem seen_trim (l : List UInt8) : Ch.isVisible (Lib.trimS l Ch.ws) = Ch.isVisible l := by
  unfold Ch.isVisible Lib.trimS Lib.trimLeftS Lib.trimRightS
  rw [all_dropWhile _ _ ws_seen, List.all_reverse, all_dropWhile _ _ ws_seen, List.all_reverse]
/-- a field out of a line: its value trimmed first -/
theorem of_trim (l : List UInt8) : of l = if at_ 58 l = l.length then bad 5
    else if Ch.isToken (l.take (at_ 58 l)) = false then bad 6
    else if 40 < at_ 58 l then bad 4
    else if Ch.isVisible (Lib.trimS (l.drop (at_ 58 l + 1)) Ch.ws) = false then bad 3
    else ⟨l.take (at_ 58 l), Lib.trimS (l.drop (at_ 58 l + 1)) Ch.ws, 0⟩ := by
  unfold of; rw [seen_trim]

theorem token_colon (n : List UInt8) (h : Ch.isToken n = true) (j : Nat) (hj : j < n.length) : n[j] ≠ 58 := by
  intro e
  unfold Ch.isToken at h
  rw [Bool.and_eq_true, List.all_eq_true] at h
  have := h.2 _ (List.getElem_mem hj)
  rw [e] at this
  exact absurd this (by decide)
theorem trim_blank (v : List UInt8) : Lib.trimS (32 :: v) Ch.ws = Lib.trimS v Ch.ws := by
  rw [← Ch.trim_both, ← Ch.trim_both]
  rfl
/-- a field that has a text -/
structure Good (n v : List UInt8) : Prop where
  tok : Ch.isToken n = true
  short : n.length ≤ 40
  seen : Ch.isVisible v = true
  trim : Lib.trimS v Ch.ws = v
theorem text_good {n v : List UInt8} (h : Good n v) (hl : n.length + 2 + v.length ≤ 200) : text n v = (n ++ [58, 32] ++ v, 0) := by
  unfold text
  rw [if_neg (by rw [h.tok]; simp), if_neg (by have := h.short; omega), if_neg (by rw [h.seen, h.trim]; simp)]
theorem text_long {n v : List UInt8} (h : Good n v) (hl : ¬ n.length + 2 + v.length ≤ 200) : text n v = ([], 4) := by
  unfold text
  rw [if_neg (by rw [h.tok]; simp), if_pos (by omega)]
theorem text_zero {n v : List UInt8} (h : (text n v).2 = 0) : Good n v ∧ n.length + 2 + v.length ≤ 200 := by
  unfold text at h
  split at h
  · simp at h
  · rename_i h1
    split at h
    · simp at h
    · rename_i h2
      split at h
      · simp at h
      · rename_i h3
        have q : Ch.isVisible v = true := by
          cases e : Ch.isVisible v
          · exact absurd (Or.inl e) h3
          · rfl
        have t : Lib.trimS v Ch.ws = v := by
          by_cases e : Lib.trimS v Ch.ws = v
          · exact e
          · exact absurd (Or.inr e) h3
        exact ⟨⟨by simpa using h1, by omega, q, t⟩, by omega⟩
/-- there -/
theorem of_text {n v : List UInt8} (h : Good n v) : of (n ++ [58, 32] ++ v) = ⟨n, v, 0⟩ := by
  have hlen : (n ++ [58, 32] ++ v).length = n.length + 2 + v.length := by simp; omega
  have hat : at_ 58 (n ++ [58, 32] ++ v) = n.length := by
    refine at_is (by omega) ?_ fun j hj => ?_
    · simp
    · have := token_colon n h.tok j hj
      simpa [List.getElem_append, hj] using this
  have hd : (n ++ [58, 32] ++ v).drop (n.length + 1) = 32 :: v := by
    rw [List.append_assoc, ← List.drop_drop]
    simp
  have ht : (n ++ [58, 32] ++ v).take n.length = n := by rw [List.append_assoc]; simp
  rw [of_trim, hat, hd, ht, trim_blank, h.trim, if_neg (by omega), if_neg (by rw [h.tok]; simp), if_neg (by have := h.short; omega), if_neg (by rw [h.seen]; simp)]
/-- and back -/
theorem of_good {l : List UInt8} (h : (of l).code = 0) : Good (of l).name (of l).value := by
  rw [of_trim] at h ⊢
  split at h
  · simp [bad] at h
  · rename_i h1
    rw [if_neg h1]
    split at h
    · simp [bad] at h
    · rename_i h2
      rw [if_neg h2]
      split at h
      · simp [bad] at h
      · rename_i h3
        rw [if_neg h3]
        split at h
        · simp [bad] at h
        · rename_i h4
          rw [if_neg h4]
          exact ⟨by simpa using h2, by rw [List.length_take]; omega, by simpa using h4, trimS_again _⟩
theorem of_bad {l : List UInt8} (h : (of l).code ≠ 0) : (of l).name = [] ∧ (of l).value = [] := by
  unfold of at h ⊢
  split
  · exact ⟨rfl, rfl⟩
  · rename_i h1
    rw [if_neg h1] at h
    split
    · exact ⟨rfl, rfl⟩
    · rename_i h2
      rw [if_neg h2] at h
      split
      · exact ⟨rfl, rfl⟩
      · rename_i h3
        rw [if_neg h3] at h
        split
        · exact ⟨rfl, rfl⟩
        · rename_i h4
          rw [if_neg h4] at h
          exact absurd rfl h
/-- what is read of a line is no longer than it -/
theorem of_length (l : List UInt8) : (of l).name.length ≤ l.length ∧ (of l).value.length ≤ l.length := by
  unfold of
  split
  · simp [bad]
  · split
    · simp [bad]
    · split
      · simp [bad]
      · split
        · simp [bad]
        · refine ⟨List.length_take_le' .., ?_⟩
          have := trimS_le (l.drop (at_ 58 l + 1))
          rw [List.length_drop] at this
          show (Lib.trimS (l.drop (at_ 58 l + 1)) Ch.ws).length ≤ l.length
          omega
theorem text_length (n v : List UInt8) : (text n v).1.length ≤ n.length + 2 + v.length := by
  unfold text
  split
  · simp
  · split
    · simp
    · split
      · simp
      · simp; omega
end Go.Proofs.Ytohddkniphcecab.Fd

/- strings.Cut at a mark of one byte, walked. -/
namespace Go.Proofs.Ytohddkniphcecab
open Go.RowKit

set_option maxHeartbeats 2000000 in
set_option maxRecDepth 100000 in
theorem index_one (s : ByteArray) (c : UInt8) (w : World) :
    Calls Try.prog 57 #[.string s, .string ⟨#[c]⟩] w fun e w' => e = .returned (.int .i64 (Lib.indexByte s.data.toList c)) ∧ w' = w := by
  go_enter Try.func57, Try.ntmps57
  go_wp2_with (go_at_call 61; refine (sl_indexByte _ _ _).mono ?_; rintro e w' ⟨rfl, rfl⟩)
  · have h : ([c] == s.toList) = true := by assumption
    go_ret
    refine ⟨?_, rfl⟩
    have e : s.data.toList = [c] := by rw [← Lib.toList_data]; exact (beq_iff_eq.1 h).symm
    rw [e]
    simp [Lib.indexByte]
  · go_ret
    exact ⟨rfl, rfl⟩

/-- what is cut at a byte: what stands ahead of it, what stands behind it, and is it there? -/
def Fd.cutV (c : UInt8) (s : ByteArray) : Value :=
  if Fd.at_ c s.data.toList = s.size then .tuple #[.string s, .string ⟨#[]⟩, .bool false]
  else .tuple #[.string (s.extract 0 (Fd.at_ c s.data.toList)), .string (s.extract (Fd.at_ c s.data.toList + 1) s.size), .bool true]

set_option maxHeartbeats 800000 in
theorem slCut_one (s : ByteArray) (c : UInt8) (w : World) (hs : s.size ≤ maxLen) :
    Calls Try.prog 53 #[.string s, .string ⟨#[c]⟩] w fun e w' => e = .returned (Fd.cutV c s) ∧ ∃ n, w' = w.drewN n := by
  have HI := Hid.mk' (index_one s c w)
  have hl : s.data.toList.length = s.size := by rw [Array.length_toList]; rfl
  unfold maxLen at hs
  rcases Fd.index_at s.data.toList c with ⟨h1, h2⟩ | ⟨h1, h2⟩
  · rw [h1] at HI
    have HR : Hid (Fd.cutV c s = .tuple #[.string s, .string ⟨#[]⟩, .bool false]) := by unfold Hid Fd.cutV; rw [if_pos (by rw [h2, hl])]
    clear h1 h2 hl
    go_enter Try.func53, Try.ntmps53
    go_wp2_with fail
    refine HI.out.mono ?_
    rintro e w1 ⟨rfl, hw⟩
    subst hw
    go_wp2
    go_ret3
    exact ⟨by rw [HR.out]; rfl, 0, rfl⟩
  · rw [h1] at HI
    rw [hl] at h2
    have HR : Hid (Fd.cutV c s = .tuple #[.string (s.extract 0 (Fd.at_ c s.data.toList)), .string (s.extract (Fd.at_ c s.data.toList + 1) s.size), .bool true]) := by unfold Hid Fd.cutV; rw [if_neg (by omega)]
    clear h1 hl
    generalize Fd.at_ c s.data.toList = k at HI HR h2
    have c1 : (0 : Int) ≤ k := by omega
    have c2 : (k : Int) ≤ s.size := by omega
    have c3 : (k : Int) + 1 ≤ s.size := by omega
    have c4 : IntKind.i64.wrap ((k : Int) + 1) = (k : Int) + 1 := wrap_id (by omega) (by omega)
    have c5 : (0 : Int) ≤ (k : Int) + 1 := by omega
    have c6 : ((k : Int) + 1).toNat = k + 1 := by omega
    go_enter Try.func53, Try.ntmps53
    go_wp2_with fail
    refine HI.out.mono ?_
    rintro e w1 ⟨rfl, hw⟩
    subst hw
    go_wp2
    go_quiet (fail)
    go_wp2
    go_ret3
    exact ⟨by rw [HR.out]; rfl, nq, rfl⟩

set_option maxHeartbeats 400000 in
theorem cut_one (s : ByteArray) (c : UInt8) (w : World) (hs : s.size ≤ maxLen) :
    Calls Try.prog 41 #[.string s, .string ⟨#[c]⟩] w fun e w' => e = .returned (Fd.cutV c s) ∧ ∃ n, w' = w.drewN n := by
  have HC := Hid.mk' (slCut_one s c w hs)
  unfold Fd.cutV at HC ⊢
  split at HC
  · rename_i h
    rw [if_pos h]
    go_enter Try.func41, Try.ntmps41
    go_wp2_with fail
    refine HC.out.mono ?_
    rintro e w1 ⟨rfl, n, hw⟩
    subst hw
    go_wp2
    go_ret3
    exact ⟨rfl, n, rfl⟩
  · rename_i h
    rw [if_neg h]
    go_enter Try.func41, Try.ntmps41
    go_wp2_with fail
    refine HC.out.mono ?_
    rintro e w1 ⟨rfl, n, hw⟩
    subst hw
    go_wp2
    go_ret3
    exact ⟨rfl, n, rfl⟩
end Go.Proofs.Ytohddkniphcecab

/- Package params, walked: isSmall, isWord, check, Get. -/
namespace Go.Proofs.Ytohddkniphcecab
open Go.RowKit

set_option maxHeartbeats 400000 in
theorem isSmall_any (s : ByteArray) (w : World) (hs : s.size ≤ maxLen) :
    Calls Try.prog 23 #[.string s] w fun e w' => e = .returned (.bool (decide (Ch.lower s.data.toList = s.data.toList))) ∧ Below w.heap.size w w' := by
  have HL := Hid.mk' (lower_any s w hs)
  have hst := same_text ⟨(Ch.lower s.data.toList).toArray⟩ s
  have hlo : (decide ((⟨(Ch.lower s.data.toList).toArray⟩ : ByteArray).data.toList = s.data.toList)) = decide (Ch.lower s.data.toList = s.data.toList) := rfl
  rw [hlo] at hst
  clear hlo
  generalize (⟨(Ch.lower s.data.toList).toArray⟩ : ByteArray) = lw at *
  generalize decide (Ch.lower s.data.toList = s.data.toList) = t at *
  go_enter Try.func23, Try.ntmps23
  go_wp2_with fail
  refine HL.out.mono ?_
  rintro e w1 ⟨rfl, hb⟩
  go_wp2
  go_ret
  exact ⟨rfl, hb⟩

/-- one token, or two with a stroke between them -/
def Pm.wordTwo (wd : List UInt8) : Bool := if Fd.at_ 47 wd = wd.length then Ch.isToken wd else Ch.isToken (wd.take (Fd.at_ 47 wd)) && Ch.isToken (wd.drop (Fd.at_ 47 wd + 1))
theorem Pm.wordOk_two (wd : List UInt8) : Pm.wordOk wd = (decide (Ch.lower wd = wd) && Pm.wordTwo wd) := rfl

set_option maxHeartbeats 800000 in
theorem isWord_any (s : ByteArray) (w : World) (hs : s.size ≤ 2000) :
    Calls Try.prog 22 #[.string s] w fun e w' => e = .returned (.bool (Pm.wordTwo s.data.toList)) ∧ ∃ n, w' = w.drewN n := by
  have HC := Hid.mk' (cut_one s 47 w (by unfold maxLen; omega))
  have hl : s.data.toList.length = s.size := by rw [Array.length_toList]; rfl
  unfold Fd.cutV at HC
  by_cases h0 : Fd.at_ 47 s.data.toList = s.size
  · rw [if_pos h0] at HC
    have HR : Hid (Pm.wordTwo s.data.toList = Ch.isToken s.data.toList) := by unfold Hid Pm.wordTwo; rw [if_pos (by rw [hl]; exact h0)]
    have HT := Hid.mk' (fun W => isToken_any s W (by unfold maxLen; omega))
    clear h0 hl
    cases ht : Ch.isToken s.data.toList
    all_goals
      rw [ht] at HT HR
      clear ht
      go_enter Try.func22, Try.ntmps22
      go_wp2_with fail
      refine HC.out.mono ?_
      rintro e w1 ⟨rfl, n, hw⟩
      have HW := Hid.mk' hw
      clear hw
      go_wp2_with fail
      refine (HT.out _).mono ?_
      rintro e w2 ⟨rfl, hw2⟩
      subst hw2
      go_wp2
      go_ret
      exact ⟨ret_bool (by rw [HR.out]), n, HW.out⟩
  · rw [if_neg h0] at HC
    have hk := Fd.at_le 47 s.data.toList
    rw [hl] at hk
    have hlt : Fd.at_ 47 s.data.toList < s.size := by omega
    have HR : Hid (Pm.wordTwo s.data.toList = (Ch.isToken (s.extract 0 (Fd.at_ 47 s.data.toList)).data.toList && Ch.isToken (s.extract (Fd.at_ 47 s.data.toList + 1) s.size).data.toList)) := by
      unfold Hid Pm.wordTwo
      rw [if_neg (by rw [hl]; exact h0), Lib.extract_to_end s (Fd.at_ 47 s.data.toList + 1), Lib.extract_data]; simp
    clear h0 hl hk
    generalize Fd.at_ 47 s.data.toList = k at *
    have HT1 := Hid.mk' (fun W => isToken_any (s.extract 0 k) W (by simp [maxLen]; omega))
    have HT2 := Hid.mk' (fun W => isToken_any (s.extract (k + 1) s.size) W (by simp [maxLen]; omega))
    generalize s.extract 0 k = x at *
    generalize s.extract (k + 1) s.size = y at *
    cases ht : Ch.isToken x.data.toList
    · rw [ht] at HT1 HR
      clear ht
      go_enter Try.func22, Try.ntmps22
      go_wp2_with fail
      refine HC.out.mono ?_
      rintro e w1 ⟨rfl, n, hw⟩
      have HW := Hid.mk' hw
      clear hw
      go_wp2_with fail
      refine (HT1.out _).mono ?_
      rintro e w2 ⟨rfl, hw2⟩
      subst hw2
      go_wp2
      go_ret
      exact ⟨ret_bool (by rw [HR.out]; rfl), n, HW.out⟩
    · rw [ht] at HT1 HR
      clear ht
      generalize Ch.isToken y.data.toList = t at *
      go_enter Try.func22, Try.ntmps22
      go_wp2_with fail
      refine HC.out.mono ?_
      rintro e w1 ⟨rfl, n, hw⟩
      have HW := Hid.mk' hw
      clear hw
      go_wp2_with fail
      refine (HT1.out _).mono ?_
      rintro e w2 ⟨rfl, hw2⟩
      subst hw2
      go_wp2_with fail
      refine (HT2.out _).mono ?_
      rintro e w3 ⟨rfl, hw3⟩
      subst hw3
      go_wp2
      go_ret
      exact ⟨ret_bool (by rw [HR.out]; rfl), n, HW.out⟩

/-- why a parameter has no text behind others -/
def Pm.chk (n v : List UInt8) (seen : List Pm.Par) : Nat :=
  if Ch.isToken n = false ∨ Ch.lower n ≠ n then 6 else if (seen.any fun q => q.1 == n) = true then 9 else if Ch.isVisible v = false then 3 else 0
theorem chk_6 {n v : List UInt8} {seen : List Pm.Par} (h : Ch.isToken n = false ∨ Ch.lower n ≠ n) : Pm.chk n v seen = 6 := by unfold Pm.chk; rw [if_pos h]

set_option maxHeartbeats 1600000 in
theorem check_any (n v : ByteArray) (l : List (ByteArray × ByteArray)) (ao : Option Addr) (cap k : Nat) (w : World) (hl : IsV w ao cap k (pairV l)) (hn : l.length = k) (hk : k ≤ 1000000) (hnz : n.size ≤ 2000) (hvz : v.size ≤ 2000) :
    Calls Try.prog 24 #[.agg #[.string n, .string v], .slice ao k cap] w fun e w' => e = .returned (.int .i64 (Pm.chk n.data.toList v.data.toList (parL l) : Nat)) ∧ Below w.heap.size w w' := by
  have HT := Hid.mk' (fun W => isToken_any n W (by unfold maxLen; omega))
  have HS := Hid.mk' (fun W => isSmall_any n W (by unfold maxLen; omega))
  have HV := Hid.mk' (fun W => isVisible_any v W (by unfold maxLen; omega))
  have hB : Below w.heap.size w (w.alloc (.cells #[.string n, .string v] 37)) := (Below.refl _ _).alloc (Nat.le_refl _) _
  have HB := Hid.mk' hB
  have R0 : Hid ((w.alloc (.cells #[.string n, .string v] 37)).heap[w.heap.size]? = some (.cells #[.string n, .string v] 37 (0, 0))) := heap_alloc_new w _
  have HL := Hid.mk' hl
  clear hl hB
  cases ht : Ch.isToken n.data.toList
  · rw [ht] at HT
    have HR := Hid.mk' (chk_6 (v := v.data.toList) (seen := parL l) (Or.inl ht))
    clear ht
    go_enter Try.func24, Try.ntmps24
    go_wp2_with fail
    refine (HT.out _).mono ?_
    rintro e w1 ⟨rfl, hw⟩
    subst hw
    go_wp2
    go_ret
    exact ⟨by rw [HR.out]; rfl, HB.out⟩
  · rw [ht] at HT
    by_cases hlo : Ch.lower n.data.toList = n.data.toList
    · rw [decide_eq_true hlo] at HS
      have hR : Pm.chk n.data.toList v.data.toList (parL l) = if ((parL l).any fun q => q.1 == n.data.toList) = true then 9 else if Ch.isVisible v.data.toList = false then 3 else 0 := by
        unfold Pm.chk; rw [if_neg (by rw [ht]; simp [hlo])]
      have HR := Hid.mk' hR
      clear ht hlo hR
      go_enter Try.func24, Try.ntmps24
      go_wp2_with fail
      refine (HT.out _).mono ?_
      rintro e w1 ⟨rfl, hw⟩
      subst hw
      go_wp2_with fail
      refine (HS.out _).mono ?_
      rintro e w2 ⟨rfl, b2⟩
      have B2 := Hid.mk' (then_ HB.out b2)
      have R2 := Hid.mk' ((b2.block _ (Array.getElem?_eq_some_iff.1 R0.out).1).trans R0.out)
      have L2 := Hid.mk' (HL.out.stay B2.out)
      have c0 : w2.cell? ⟨w.heap.size, 0, none⟩ = some (.string n) := cell_of_row w2 _ 0 _ _ _ R2.out
      clear b2
      go_wp2_with fail
      refine (findR_any l n ao cap k w2 L2.out hn hk).mono ?_
      rintro e w3 ⟨r, rfl, hf, b3⟩
      have B3 := Hid.mk' (then_ B2.out b3)
      have R3 := Hid.mk' ((b3.block _ (Array.getElem?_eq_some_iff.1 R2.out).1).trans R2.out)
      have c1 : w3.cell? ⟨w.heap.size, 1, none⟩ = some (.string v) := cell_of_row w3 _ 1 _ _ _ R3.out
      clear b3 c0
      rcases hf with ⟨rfl, hno⟩ | ⟨j, hj, rfl, he, _⟩
      · have hR := HR.out
        rw [if_neg (by rw [parL_none hno]; simp)] at hR
        clear hno HR
        cases hv : Ch.isVisible v.data.toList
        · rw [hv] at HV
          rw [if_pos hv] at hR
          have HR := Hid.mk' hR
          clear hR hv
          go_wp2_with fail
          refine (HV.out _).mono ?_
          rintro e w4 ⟨rfl, hw⟩
          subst hw
          go_wp2
          go_ret
          exact ⟨by rw [HR.out]; rfl, B3.out⟩
        · rw [hv] at HV
          rw [if_neg (by rw [hv]; simp)] at hR
          have HR := Hid.mk' hR
          clear hR hv
          go_wp2_with fail
          refine (HV.out _).mono ?_
          rintro e w4 ⟨rfl, hw⟩
          subst hw
          go_wp2
          go_ret
          exact ⟨by rw [HR.out]; rfl, B3.out⟩
      · have hR := HR.out
        rw [if_pos (parL_any hj he)] at hR
        have HR := Hid.mk' hR
        have t0 : decide ((j : Int) ≥ 0) = true := by rw [decide_eq_true_eq]; omega
        clear he hR
        go_wp2
        go_ret
        exact ⟨by rw [HR.out]; rfl, B3.out⟩
    · rw [decide_eq_false hlo] at HS
      have HR := Hid.mk' (chk_6 (v := v.data.toList) (seen := parL l) (Or.inr hlo))
      clear ht hlo
      go_enter Try.func24, Try.ntmps24
      go_wp2_with fail
      refine (HT.out _).mono ?_
      rintro e w1 ⟨rfl, hw⟩
      subst hw
      go_wp2_with fail
      refine (HS.out _).mono ?_
      rintro e w2 ⟨rfl, b2⟩
      have B2 := Hid.mk' (then_ HB.out b2)
      clear b2
      go_wp2
      go_ret
      exact ⟨by rw [HR.out]; rfl, B2.out⟩
end Go.Proofs.Ytohddkniphcecab
